/- The processor's registers, flags and stack, each by its method. Written by gen_procx.py. -/
import Derived.Test.YtcchhbkbnbphhaaGreatDoorM10
namespace Go.Proofs.YtcchhbkbnbphhaaGreatDoor
open Go.RowKit

set_option maxRecDepth 100000 in
theorem busReadM (a : PA) (m : MD) (w : World) (k : Int) (h0 : 0 ≤ k) (h1 : k ≤ 4095) (hm : m.Ok) (B : BusAt w a.R a.g a.b0 a.b1 a.b2 a.b3 a.A0 a.A1 a.c0 a.c1 m.r m.i m.z m.g m.s) :
    Calls Tryz.prog 81 #[.agg #[.pointer (some ⟨a.b0, 0, none⟩), .pointer (some ⟨a.b1, 0, none⟩), .pointer (some ⟨a.b2, 0, none⟩), .pointer (some ⟨a.b3, 0, none⟩)], .int .i64 k] w fun e w' => e = .returned (.int .i64 (m.get k)) ∧ Below w.heap.size w w' := by
  obtain ⟨j, rfl⟩ : ∃ j : Nat, k = j := ⟨k.toNat, by omega⟩
  exact busRead a.R a.g a.b0 a.b1 a.b2 a.b3 a.A0 a.A1 a.c0 a.c1 m.r m.i m.z m.g m.s w j (by omega) hm.r hm.i hm.z hm.g hm.zb B
theorem BusAt.setBelow {w : World} {lo g b0 b1 b2 b3 : Nat} {A0 A1 : Option Addr} {c0 c1 : Nat} {ram io zs : List Int} {gs : List Bool} {st : Int} (B : BusAt w lo g b0 b1 b2 b3 A0 A1 c0 c1 ram io zs gs st) {b : Nat} (hb : b < lo) (j : Nat) (u : Value) : BusAt (w.setCell ⟨b, j, none⟩ u) lo g b0 b1 b2 b3 A0 A1 c0 c1 ram io zs gs st := by
  obtain ⟨l0, l1, l2, l3, l4, l5⟩ := B.l
  have hB : Btw b (b + 1) w (w.setCell ⟨b, j, none⟩ u) := (Btw.refl _ _ _).setCell (p := ⟨b, j, none⟩) (Nat.le_refl _) (Nat.lt_succ_self _) _
  have hz : (w.setCell ⟨b, j, none⟩ u).heap.size = w.heap.size := by simp [World.setCell]
  exact ⟨B.r.far (p := ⟨b, j, none⟩) (by show b0 ≠ b; omega) u, B.i.far (p := ⟨b, j, none⟩) (by show b1 ≠ b; omega) u, B.f.far (p := ⟨b, j, none⟩) (by show b2 ≠ b; omega) u, B.o.far (p := ⟨b, j, none⟩) (by show b3 ≠ b; omega) u, B.R.btw hB (.inr (by omega)), by rw [hz]; exact B.I.btw hB (.inr (by omega)), by rw [hz]; exact ⟨l0, l1, l2, l3, l4, l5⟩⟩
theorem nz_32 (v : Nat) (h : v ≤ 255) : (bits .and .i64 (v : Int) 32 != 0) = decide ((v : Int) / 32 % 2 = 1) := by
  have q : (List.range 256).all (fun v : Nat => (bits .and .i64 (v : Int) 32 != 0) == decide ((v : Int) / 32 % 2 = 1)) = true := by kernel_rfl
  exact eq_of_beq (List.all_eq_true.1 q v (List.mem_range.2 (by omega)))
theorem nz_64 (v : Nat) (h : v ≤ 255) : (bits .and .i64 (v : Int) 64 != 0) = decide ((v : Int) / 64 % 2 = 1) := by
  have q : (List.range 256).all (fun v : Nat => (bits .and .i64 (v : Int) 64 != 0) == decide ((v : Int) / 64 % 2 = 1)) = true := by kernel_rfl
  exact eq_of_beq (List.all_eq_true.1 q v (List.mem_range.2 (by omega)))
theorem nz_128 (v : Nat) (h : v ≤ 255) : (bits .and .i64 (v : Int) 128 != 0) = decide ((v : Int) / 128 % 2 = 1) := by
  have q : (List.range 256).all (fun v : Nat => (bits .and .i64 (v : Int) 128 != 0) == decide ((v : Int) / 128 % 2 = 1)) = true := by kernel_rfl
  exact eq_of_beq (List.all_eq_true.1 q v (List.mem_range.2 (by omega)))
theorem PrAt.regAt {w : World} {a : PA} {d : CD} {m : MD} {s : Int} (h : PrAt w a d m s) (hd : d.Ok) {j : Nat} (hj : j < 16) : ∃ b, a.A = some ⟨b, 0, none⟩ ∧ w.cell? ⟨b, j, none⟩ = some (.int .i64 (d.regs.getD j 0)) ∧ w.frozen? ⟨b, j, none⟩ = false ∧ b ≠ a.p ∧ ∀ v, PrAt (w.setCell ⟨b, j, none⟩ (.int .i64 v)) a { d with regs := d.regs.set j v } m s ∧ Runs a.L w (w.setCell ⟨b, j, none⟩ (.int .i64 v)) := by
  obtain ⟨b, n, f, e, c, z, q1, q2, hr, hp⟩ := h.G.put j (by rw [hd.len]; exact hj)
  have hne : b ≠ a.p := fun q => by
    subst q
    obtain ⟨cs, hc, -⟩ := hr
    have hx := h.X
    unfold Box at hx
    rw [hx] at hc
    injection hc with hc
    injection hc with _ hc _
    exact absurd hc (by decide)
  refine ⟨b, e, c, z, hne, fun v => ⟨⟨h.X.far (p := ⟨b, j, none⟩) hne.symm _, hp v, ?_, h.q⟩, ?_⟩⟩
  · exact h.B.setBelow q2 j _
  · exact ⟨fun b' t cs h1 _ _ Y => Y.other hr h1 j _, (Below.refl _ _).setCell (p := ⟨b, j, none⟩) q1 _⟩

set_option maxRecDepth 100000 in
set_option maxHeartbeats 2000000 in
theorem prReg (a : PA) (d : CD) (m : MD) (s : Int) (w : World) (k : Int) (hk : 0 ≤ k ∧ k ≤ 3) (hd : d.Ok) (hm : m.Ok) (h : PrAt w a d m s) :
    Calls Tryz.prog 121 #[.pointer (some ⟨a.p, 0, none⟩), .int .i64 k] w (GPrI (d.reg k) a d m s w) := by
  have h2 := hd.bank
  obtain ⟨b20, b21⟩ := h2
  obtain ⟨j, hj⟩ : ∃ j : Nat, 4 * d.bank + k = j := ⟨(4 * d.bank + k).toNat, by omega⟩
  have hj16 : j < 16 := by omega
  have HV : Hid (d.reg k = d.regs.getD j 0) := Lib.hid (by unfold CD.reg; rw [hj]; rfl)
  have HPl := Lib.hid (fun W => cpuPlace a.A a.c d W k ⟨b20, b21⟩ hk.1 hk.2)
  obtain ⟨b, eA, cr, -, -, -⟩ := h.regAt hd hj16
  have HP := Lib.hid h
  have HX0 : Hid (Box w.drew a.p 59 (procC a d s) ∧ w.drew.cell? ⟨b, j, none⟩ = some (.int .i64 (d.regs.getD j 0))) := Lib.hid ⟨h.X.drew, cr⟩
  have HK : Hid (∀ W, Box W a.p 59 (procC a d s) ∧ W.cell? ⟨b, j, none⟩ = some (.int .i64 (d.regs.getD j 0)) → W.cell? ⟨a.p, 0, none⟩ = some (.int .i64 d.pc) ∧ W.cell? ⟨a.p, 1, none⟩ = some (.int .i64 d.sp) ∧ W.cell? ⟨a.p, 2, none⟩ = some (.int .i64 d.bank) ∧ W.cell? ⟨a.p, 3, none⟩ = some (.int .i64 d.level) ∧ W.cell? ⟨a.p, 4, none⟩ = some (.bool d.zero) ∧ W.cell? ⟨a.p, 5, none⟩ = some (.bool d.carry) ∧ W.cell? ⟨a.p, 6, none⟩ = some (.bool d.on) ∧ W.cell? ⟨a.p, 7, none⟩ = some (.bool d.halt) ∧ W.cell? ⟨a.p, 8, none⟩ = some (.slice a.A 16 a.c) ∧ W.cell? ⟨b, j, none⟩ = some (.int .i64 (d.regs.getD j 0))) := Lib.hid (fun W X => ⟨X.1.cell 0 rfl, X.1.cell 1 rfl, X.1.cell 2 rfl, X.1.cell 3 rfl, X.1.cell 4 rfl, X.1.cell 5 rfl, X.1.cell 6 rfl, X.1.cell 7 rfl, X.1.cell 8 rfl, X.2⟩)
  rw [HV.out]
  rw [hj] at HPl
  have j0 : (0 : Int) ≤ (j : Int) := by omega
  have j1 : (j : Int) < 16 := by omega
  generalize d.regs.getD j 0 = x at cr HX0 HK ⊢
  obtain ⟨k0, k1⟩ := hk
  rw [eA] at HK HPl
  obtain ⟨⟨c0, c1, c2, c3, c4, c5, c6, c7, c8⟩, ⟨_, _, _, _, _⟩, cz⟩ := HP.out.cells
  rw [eA] at c8
  clear h hd hm hj HV cz cr
  go_enter Tryz.func121, Tryz.ntmps121
  go_wp2
  go_region_held3 (fun W => W.cell? ⟨a.p, 0, none⟩ = some (.int .i64 d.pc) ∧ W.cell? ⟨a.p, 1, none⟩ = some (.int .i64 d.sp) ∧ W.cell? ⟨a.p, 2, none⟩ = some (.int .i64 d.bank) ∧ W.cell? ⟨a.p, 3, none⟩ = some (.int .i64 d.level) ∧ W.cell? ⟨a.p, 4, none⟩ = some (.bool d.zero) ∧ W.cell? ⟨a.p, 5, none⟩ = some (.bool d.carry) ∧ W.cell? ⟨a.p, 6, none⟩ = some (.bool d.on) ∧ W.cell? ⟨a.p, 7, none⟩ = some (.bool d.halt) ∧ W.cell? ⟨a.p, 8, none⟩ = some (.slice (some ⟨b, 0, none⟩) 16 a.c) ∧ W.cell? ⟨b, j, none⟩ = some (.int .i64 x))
    (first | (with_reducible exact HK.out _ HX0.out) | (with_reducible exact HK.out _ HX1.out))
    (first | (go_at_call 33; refine (HPl.out _).mono ?_; rintro e w1 ⟨rfl, hb1⟩; have HX1 := Lib.hid (And.intro (HX0.out.1.step hb1) ((hb1.cell (p := ⟨b, j, none⟩) (cell_lt HX0.out.2)).trans HX0.out.2))))
  go_wp2
  go_ret
  exact ⟨rfl, Lib.hid ((HP.out.step (Below.refl _ _).drew).step hb1), Lib.hid ((Runs.drew a.L w).trans (Runs.below hb1 HP.out.size))⟩

set_option maxRecDepth 100000 in
set_option maxHeartbeats 2000000 in
theorem prSetReg (a : PA) (d : CD) (m : MD) (s : Int) (w : World) (k v : Int) (hk : 0 ≤ k ∧ k ≤ 3) (hd : d.Ok) (hm : m.Ok) (h : PrAt w a d m s) :
    Calls Tryz.prog 119 #[.pointer (some ⟨a.p, 0, none⟩), .int .i64 k, .int .i64 v] w (GPr a (d.set k v) m s w) := by
  have h2 := hd.bank
  obtain ⟨b20, b21⟩ := h2
  obtain ⟨j, hj⟩ : ∃ j : Nat, 4 * d.bank + k = j := ⟨(4 * d.bank + k).toNat, by omega⟩
  have hj16 : j < 16 := by omega
  have HV : Hid (d.set k v = { d with regs := d.regs.set j v }) := Lib.hid (by unfold CD.set; rw [hj]; rfl)
  have HPl := Lib.hid (fun W => cpuPlace a.A a.c d W k ⟨b20, b21⟩ hk.1 hk.2)
  obtain ⟨b, eA, cr, zr, hne, hput⟩ := h.regAt hd hj16
  have HP := Lib.hid h
  have HPd : Hid (PrAt w.drew a d m s) := Lib.hid (h.step (Below.refl _ _).drew)
  have HX0 : Hid (Box w.drew a.p 59 (procC a d s)) := Lib.hid h.X.drew
  have HK : Hid (∀ W, Box W a.p 59 (procC a d s) → W.cell? ⟨a.p, 0, none⟩ = some (.int .i64 d.pc) ∧ W.cell? ⟨a.p, 1, none⟩ = some (.int .i64 d.sp) ∧ W.cell? ⟨a.p, 2, none⟩ = some (.int .i64 d.bank) ∧ W.cell? ⟨a.p, 3, none⟩ = some (.int .i64 d.level) ∧ W.cell? ⟨a.p, 4, none⟩ = some (.bool d.zero) ∧ W.cell? ⟨a.p, 5, none⟩ = some (.bool d.carry) ∧ W.cell? ⟨a.p, 6, none⟩ = some (.bool d.on) ∧ W.cell? ⟨a.p, 7, none⟩ = some (.bool d.halt) ∧ W.cell? ⟨a.p, 8, none⟩ = some (.slice a.A 16 a.c)) := Lib.hid (fun W X => ⟨X.cell 0 rfl, X.cell 1 rfl, X.cell 2 rfl, X.cell 3 rfl, X.cell 4 rfl, X.cell 5 rfl, X.cell 6 rfl, X.cell 7 rfl, X.cell 8 rfl⟩)
  have HAt := Lib.hid (fun W (q : PrAt W a d m s) => q.regAt hd hj16)
  rw [HV.out]
  rw [hj] at HPl
  have j0 : (0 : Int) ≤ (j : Int) := by omega
  have j1 : (j : Int) < 16 := by omega
  obtain ⟨k0, k1⟩ := hk
  rw [eA] at HK HPl
  have HE := Lib.hid eA
  have HNe := Lib.hid hne
  obtain ⟨⟨c0, c1, c2, c3, c4, c5, c6, c7, c8⟩, ⟨_, _, _, _, _⟩, cz⟩ := HP.out.cells
  rw [eA] at c8
  clear h hd hm hj HV cz cr zr hput eA hne
  go_enter Tryz.func119, Tryz.ntmps119
  go_wp2
  go_region_held3 (fun W => W.cell? ⟨a.p, 0, none⟩ = some (.int .i64 d.pc) ∧ W.cell? ⟨a.p, 1, none⟩ = some (.int .i64 d.sp) ∧ W.cell? ⟨a.p, 2, none⟩ = some (.int .i64 d.bank) ∧ W.cell? ⟨a.p, 3, none⟩ = some (.int .i64 d.level) ∧ W.cell? ⟨a.p, 4, none⟩ = some (.bool d.zero) ∧ W.cell? ⟨a.p, 5, none⟩ = some (.bool d.carry) ∧ W.cell? ⟨a.p, 6, none⟩ = some (.bool d.on) ∧ W.cell? ⟨a.p, 7, none⟩ = some (.bool d.halt) ∧ W.cell? ⟨a.p, 8, none⟩ = some (.slice (some ⟨b, 0, none⟩) 16 a.c))
    (first | (with_reducible exact HK.out _ HX0.out) | (with_reducible exact HK.out _ HX1.out) | (with_reducible exact HK.out _ HX2.out))
    (first | (go_at_call 33; refine (HPl.out _).mono ?_; rintro e w1 ⟨rfl, hb1⟩; have HX1 := Lib.hid (HX0.out.step hb1); obtain ⟨b', eA', cr, zr, _, hput⟩ := HAt.out w1 (HPd.out.step hb1); obtain rfl : b = b' := (by rw [HE.out] at eA'; injection eA' with eA'; injection eA'); generalize d.regs.getD j 0 = y at cr; have HX2 := Lib.hid (HX1.out.far (p := ⟨b, j, none⟩) HNe.out.symm (.int .i64 v)); have HPut := Lib.hid (hput v); clear hput eA'))
  go_end0
  exact ⟨rfl, Lib.hid HPut.out.1, Lib.hid (((Runs.drew a.L w).trans (Runs.below hb1 HP.out.size)).trans HPut.out.2)⟩

set_option maxRecDepth 100000 in
set_option maxHeartbeats 2000000 in
theorem prSetResult (a : PA) (d : CD) (m : MD) (s : Int) (w : World) (k v : Int) (hk : 0 ≤ k ∧ k ≤ 3) (hd : d.Ok) (hm : m.Ok) (h : PrAt w a d m s) :
    Calls Tryz.prog 120 #[.pointer (some ⟨a.p, 0, none⟩), .int .i64 k, .int .i64 v] w (GPr a (d.res k v) m s w) := by
  have HWr := Lib.hid (fun W => wrapI v W)
  have H1 := Lib.hid (fun W (q : PrAt W a d m s) => prSetReg a d m s W k (v % 256) hk hd hm q)
  unfold GPr at H1
  have HV : Hid (d.res k v = { d.set k (v % 256) with zero := decide (v % 256 = 0) }) := Lib.hid rfl
  rw [HV.out]
  have HP := Lib.hid h
  have e1 : (v % 256 == 0) = decide (v % 256 = 0) := by rw [Bool.eq_iff_iff]; simp
  generalize d.set k (v % 256) = d1 at H1 ⊢
  generalize v % 256 = u at H1 HWr e1 ⊢
  clear h hd hm HV hk
  go_enter Tryz.func120, Tryz.ntmps120
  go_wp2_with fail
  refine (HWr.out _).mono ?_
  rintro e w' ⟨rfl, rfl⟩
  go_wp2_with fail
  refine (H1.out _ HP.out).mono ?_
  rintro e w1 ⟨rfl, P1, R1⟩
  obtain ⟨⟨_, _, _, _, c4, _, _, _, _⟩, ⟨_, _, _, _, _⟩, cz⟩ := P1.out.cells
  have z4 := cz 4
  clear cz HP H1
  go_wp2
  go_end0
  exact ⟨rfl, Lib.hid (P1.out.put 4 _ _ _ (by rw [← e1]; rfl) rfl), Lib.hid (R1.out.trans (P1.out.runs (Nat.le_refl _) 4 _))⟩

set_option maxRecDepth 100000 in
set_option maxHeartbeats 2000000 in
theorem prSetFlags (a : PA) (d : CD) (m : MD) (s : Int) (w : World) (v : Int) (hv : 0 ≤ v ∧ v ≤ 255) (h : PrAt w a d m s) :
    Calls Tryz.prog 117 #[.pointer (some ⟨a.p, 0, none⟩), .int .i64 v] w (GPr a (d.toFlags v) m s w) := by
  obtain ⟨u, rfl⟩ : ∃ u : Nat, v = u := ⟨v.toNat, by omega⟩
  have e1 : (u : Int).tmod 8 = (u : Int) % 8 := Int.tmod_eq_emod_of_nonneg (by omega)
  have e2 : (u : Int).tdiv 8 = (u : Int) / 8 := Int.tdiv_eq_ediv_of_nonneg (by omega)
  have e3 : ((u : Int) / 8).tmod 4 = (u : Int) / 8 % 4 := Int.tmod_eq_emod_of_nonneg (by omega)
  have e4 : IntKind.i64.wrap ((u : Int) / 8) = (u : Int) / 8 := IntWalk.i64_in _ (by omega)
  have n1 := nz_32 u (by omega)
  have n2 := nz_64 u (by omega)
  have n3 := nz_128 u (by omega)
  have HV : Hid (d.toFlags (u : Int) = { d with level := (u : Int) % 8, bank := (u : Int) / 8 % 4, zero := decide ((u : Int) / 32 % 2 = 1), carry := decide ((u : Int) / 64 % 2 = 1), on := decide ((u : Int) / 128 % 2 = 1) }) := Lib.hid rfl
  rw [HV.out]
  generalize decide ((u : Int) / 32 % 2 = 1) = b1 at n1 ⊢
  generalize decide ((u : Int) / 64 % 2 = 1) = b2 at n2 ⊢
  generalize decide ((u : Int) / 128 % 2 = 1) = b3 at n3 ⊢
  have hu0 : (0 : Int) ≤ (u : Int) := by omega
  have HP := Lib.hid h
  have P1 := Lib.hid (HP.out.put 3 (.int .i64 ((u : Int) % 8)) { d with level := (u : Int) % 8 } s rfl rfl)
  have R1 := Lib.hid (HP.out.runs (Nat.le_refl _) 3 (.int .i64 ((u : Int) % 8)))
  have P2 := Lib.hid (P1.out.put 2 (.int .i64 ((u : Int) / 8 % 4)) { d with level := (u : Int) % 8, bank := (u : Int) / 8 % 4 } s rfl rfl)
  have R2 := Lib.hid (R1.out.trans (P1.out.runs (Nat.le_refl _) 2 (.int .i64 ((u : Int) / 8 % 4))))
  have P3 := Lib.hid (P2.out.put 4 (.bool b1) { d with level := (u : Int) % 8, bank := (u : Int) / 8 % 4, zero := b1 } s rfl rfl)
  have R3 := Lib.hid (R2.out.trans (P2.out.runs (Nat.le_refl _) 4 (.bool b1)))
  have P4 := Lib.hid (P3.out.put 5 (.bool b2) { d with level := (u : Int) % 8, bank := (u : Int) / 8 % 4, zero := b1, carry := b2 } s rfl rfl)
  have R4 := Lib.hid (R3.out.trans (P3.out.runs (Nat.le_refl _) 5 (.bool b2)))
  have P5 := Lib.hid (P4.out.put 6 (.bool b3) { d with level := (u : Int) % 8, bank := (u : Int) / 8 % 4, zero := b1, carry := b2, on := b3 } s rfl rfl)
  have R5 := Lib.hid (R4.out.trans (P4.out.runs (Nat.le_refl _) 6 (.bool b3)))
  obtain ⟨⟨_, _, c2, c3, c4, c5, c6, _, _⟩, ⟨_, _, _, _, _⟩, cz⟩ := HP.out.cells
  have z2 := cz 2
  have z3 := cz 3
  have z4 := cz 4
  have z5 := cz 5
  have z6 := cz 6
  clear h HV cz HP P1 P2 P3 P4 R1 R2 R3 R4
  go_enter Tryz.func117, Tryz.ntmps117
  go_wp2
  go_end0
  exact ⟨rfl, P5, R5⟩

set_option maxRecDepth 100000 in
set_option maxHeartbeats 2000000 in
theorem prPull (a : PA) (d : CD) (m : MD) (s : Int) (w : World) (hd : d.Ok) (hm : m.Ok) (h : PrAt w a d m s) :
    Calls Tryz.prog 118 #[.pointer (some ⟨a.p, 0, none⟩)] w (GPrI (m.get d.up.sp) a d.up m s w) := by
  have hsp := hd.sp
  have HWr := Lib.hid (fun W => wrapI (d.sp + 1) W)
  have e2 : IntKind.i64.wrap (d.sp + 1) = d.sp + 1 := IntWalk.i64_in _ (by omega)
  have HP := Lib.hid h
  have P1 := Lib.hid (h.put 1 (.int .i64 ((d.sp + 1) % 256)) d.up s rfl rfl)
  have R1 := Lib.hid (h.runs (Nat.le_refl _) 1 (.int .i64 ((d.sp + 1) % 256)))
  have HSp : Hid (d.up.sp = (d.sp + 1) % 256) := Lib.hid rfl
  have HRd := Lib.hid (fun W (q : BusAt W a.R a.g a.b0 a.b1 a.b2 a.b3 a.A0 a.A1 a.c0 a.c1 m.r m.i m.z m.g m.s) => busReadM a m W d.up.sp hd.up.sp.1 (by have := hd.up.sp; omega) hm q)
  rw [← HSp.out] at P1 R1
  obtain ⟨⟨_, c1, _, _, _, _, _, _, _⟩, ⟨_, _, _, _, _⟩, cz⟩ := HP.out.cells
  have z1 := cz 1
  clear h hd hm hsp cz HP
  generalize d.up = d1 at P1 R1 HRd HSp ⊢
  go_enter Tryz.func118, Tryz.ntmps118
  go_wp2_with (first | (go_at_call 112; refine (HWr.out _).mono ?_; rintro e w' ⟨rfl, rfl⟩; rw [← HSp.out]))
  clear HSp c1 z1
  obtain ⟨w1, hw1⟩ : ∃ w1, w1 = w.setCell ⟨a.p, 1, none⟩ (.int .i64 d1.sp) := ⟨_, rfl⟩
  rw [← hw1] at P1 R1 ⊢
  clear hw1
  have HX0 : Hid (Box w1.drew a.p 59 (procC a d1 s)) := Lib.hid P1.out.X.drew
  have HK : Hid (∀ W, Box W a.p 59 (procC a d1 s) → W.cell? ⟨a.p, 1, none⟩ = some (.int .i64 d1.sp) ∧ W.cell? ⟨a.p, 9, none⟩ = some (.pointer (some ⟨a.b0, 0, none⟩)) ∧ W.cell? ⟨a.p, 10, none⟩ = some (.pointer (some ⟨a.b1, 0, none⟩)) ∧ W.cell? ⟨a.p, 11, none⟩ = some (.pointer (some ⟨a.b2, 0, none⟩)) ∧ W.cell? ⟨a.p, 12, none⟩ = some (.pointer (some ⟨a.b3, 0, none⟩))) := Lib.hid (fun W X => ⟨X.cell 1 rfl, X.cell 9 rfl, X.cell 10 rfl, X.cell 11 rfl, X.cell 12 rfl⟩)
  have HB : Hid (BusAt w1.drew a.R a.g a.b0 a.b1 a.b2 a.b3 a.A0 a.A1 a.c0 a.c1 m.r m.i m.z m.g m.s) := Lib.hid (P1.out.B.step (Below.refl _ _).drew)
  go_region_held3 (fun W => W.cell? ⟨a.p, 1, none⟩ = some (.int .i64 d1.sp) ∧ W.cell? ⟨a.p, 9, none⟩ = some (.pointer (some ⟨a.b0, 0, none⟩)) ∧ W.cell? ⟨a.p, 10, none⟩ = some (.pointer (some ⟨a.b1, 0, none⟩)) ∧ W.cell? ⟨a.p, 11, none⟩ = some (.pointer (some ⟨a.b2, 0, none⟩)) ∧ W.cell? ⟨a.p, 12, none⟩ = some (.pointer (some ⟨a.b3, 0, none⟩)))
    (first | (with_reducible exact HK.out _ HX0.out) | (with_reducible exact HK.out _ HX1.out))
    (first | (go_at_call 81; refine (HRd.out _ HB.out).mono ?_; rintro e w2 ⟨rfl, hb2⟩; have HX1 := Lib.hid (HX0.out.step hb2)))
  go_wp2
  go_ret
  exact ⟨rfl, Lib.hid ((P1.out.step (Below.refl _ _).drew).step hb2), Lib.hid (R1.out.trans ((Runs.drew a.L w1).trans (Runs.below hb2 P1.out.size)))⟩
end Go.Proofs.YtcchhbkbnbphhaaGreatDoor
