/- Texts of this claim, one behind the other: StpCom, ProcM, ProcM2, BackMath, MemApi. -/
import Derived.Test.YtcchhbkbnbphhaaGreatDoorEirqS
import Derived.Test.YtcchhbkbnbphhaaGreatDoorCpuSpec2
import Derived.Test.YtcchhbkbnbphhaaGreatDoorCpuOk
import Derived.Deep.RegionHeld3
import Derived.Test.YtcchhbkbnbphhaaGreatDoorMemOwn
import Derived.Test.YtcchhbkbnbphhaaGreatDoorM9
/- What StepCpu answers, as data. Written by gen_stepc.py. -/
namespace Go.Proofs.YtcchhbkbnbphhaaGreatDoor
open Go.RowKit

def GivesStp (d : CD) (m : MD) (cy sw code : Int) (w : World) (e' : Ending) (w' : World) : Prop :=
  ∃ B B0 B1 B2 B3 e e0 e1 e2 e3, e' = .returned (.tuple #[.agg #[.int .i64 d.pc, .int .i64 d.sp, .int .i64 d.bank, .int .i64 d.level, .bool d.zero, .bool d.carry, .bool d.on, .bool d.halt, .slice B d.regs.length e], .agg #[.slice B0 m.r.length e0, .slice B1 m.i.length e1, .slice B2 m.z.length e2, .slice B3 m.g.length e3, .int .i64 m.s], .int .i64 cy, .int .i64 sw, .int .i64 code]) ∧ Hid (OwnA w' w.heap.size w'.heap.size [.slice B d.regs.length e, .slice B0 m.r.length e0, .slice B1 m.i.length e1, .slice B2 m.z.length e2, .slice B3 m.g.length e3] [.I d.regs, .I m.r, .I m.i, .I m.z, .B m.g]) ∧ Below w.heap.size w w'
def stpE (d : CD) (m : MD) : Int := if d.ok && m.ok then 0 else 1
def stpC (d : CD) (m : MD) : CD := if d.ok && m.ok then stepD d m else zCD
def stpM (d : CD) (m : MD) : MD := if d.ok && m.ok then stepM d m else zMD
def stpN (d : CD) (m : MD) : Int := if d.ok && m.ok then stepN d m else 0
def stpS (d : CD) (m : MD) : Int := if d.ok && m.ok then stepS d m else 0
theorem stp_bad {d : CD} {m : MD} (h : (d.ok && m.ok) = false) : stpE d m = 1 ∧ stpC d m = zCD ∧ stpM d m = zMD ∧ stpN d m = 0 ∧ stpS d m = 0 := by
  unfold stpE stpC stpM stpN stpS
  rw [h]
  exact ⟨rfl, rfl, rfl, rfl, rfl⟩
theorem stp_ok {d : CD} {m : MD} (h : (d.ok && m.ok) = true) : stpE d m = 0 ∧ stpC d m = stepD d m ∧ stpM d m = stepM d m ∧ stpN d m = stepN d m ∧ stpS d m = stepS d m := by
  unfold stpE stpC stpM stpN stpS
  rw [h]
  exact ⟨rfl, rfl, rfl, rfl, rfl⟩
end Go.Proofs.YtcchhbkbnbphhaaGreatDoor

/- The processor's own methods: wrap, place, flags, push, callAt, enter; processorOf. Written by gen_procm.py. -/
namespace Go.Proofs.YtcchhbkbnbphhaaGreatDoor
open Go.RowKit

set_option maxRecDepth 100000 in
theorem wrapI (v : Int) (w : World) : Calls Tryz.prog 112 #[.int .i64 v] w fun e w' => e = .returned (.int .i64 (v % 256)) ∧ w = w' := by
  have h := and_255 v
  go_enter Tryz.func112, Tryz.ntmps112
  go_wp2
  go_ret
  exact ⟨rfl, rfl⟩
def WritesM (a : PA) (m : MD) (w : World) (e : Ending) (w' : World) : Prop :=
  e = .returned (.tuple #[]) ∧ Hid (BusAt w' a.R a.g a.b0 a.b1 a.b2 a.b3 a.A0 a.A1 a.c0 a.c1 m.r m.i m.z m.g m.s) ∧ Hid (∀ b t cs, t ≠ 3 → t ≠ 96 → Box w b t cs → Box w' b t cs) ∧ Below a.R w w'
set_option maxRecDepth 100000 in
theorem busWriteM (a : PA) (m : MD) (w : World) (k v : Int) (h0 : 0 ≤ k) (h1 : k ≤ 4095) (hv0 : 0 ≤ v) (hv1 : v ≤ 255) (hm : m.Ok) (B : BusAt w a.R a.g a.b0 a.b1 a.b2 a.b3 a.A0 a.A1 a.c0 a.c1 m.r m.i m.z m.g m.s) :
    Calls Tryz.prog 111 #[.agg #[.pointer (some ⟨a.b0, 0, none⟩), .pointer (some ⟨a.b1, 0, none⟩), .pointer (some ⟨a.b2, 0, none⟩), .pointer (some ⟨a.b3, 0, none⟩)], .int .i64 k, .int .i64 v] w (WritesM a (m.put k v) w) := by
  obtain ⟨j, rfl⟩ : ∃ j : Nat, k = j := ⟨k.toNat, by omega⟩
  obtain ⟨u, rfl⟩ : ∃ u : Nat, v = u := ⟨v.toNat, by omega⟩
  exact busWrite a.R a.g a.b0 a.b1 a.b2 a.b3 a.A0 a.A1 a.c0 a.c1 m.r m.i m.z m.g m.s w j u (by omega) (by omega) hm.r hm.i hm.z hm.g hm.s hm.zb B
theorem OwnI.lowB {w w' : World} {lo hi n : Nat} {A : Option Addr} {zs : List Int} (h : OwnI w lo hi A zs) (k : Below n w w') (hn : hi ≤ n) : OwnI w' lo hi A zs := h.btw (Btw.of_low k) (.inl hn)
theorem PrAt.wrote {w w' : World} {a : PA} {d : CD} {m m' : MD} {s : Int} (h : PrAt w a d m s) (N1 : BusAt w' a.R a.g a.b0 a.b1 a.b2 a.b3 a.A0 a.A1 a.c0 a.c1 m'.r m'.i m'.z m'.g m'.s) (N2 : ∀ b t cs, t ≠ 3 → t ≠ 96 → Box w b t cs → Box w' b t cs) (N3 : Below a.R w w') : PrAt w' a d m' s :=
  ⟨N2 _ _ _ (by decide) (by decide) h.X, h.G.lowB N3 (Nat.le_refl _), N1, h.q⟩
theorem Runs.wrote {w w' : World} {L R : Nat} (hl : L ≤ R) (N2 : ∀ b t cs, t ≠ 3 → t ≠ 96 → Box w b t cs → Box w' b t cs) (N3 : Below R w w') : Runs L w w' := ⟨fun b t cs h1 h2 _ X => N2 b t cs h1 h2 X, N3.mono hl⟩
theorem Runs.refl (L : Nat) (w : World) : Runs L w w := ⟨KeepsBox.refl w, Below.refl _ _⟩
theorem Runs.drew (L : Nat) (w : World) : Runs L w w.drew := ⟨fun _ _ _ _ _ _ X => X.drew, (Below.refl _ _).drew⟩

set_option maxRecDepth 100000 in
set_option maxHeartbeats 2000000 in
theorem cpuFlags (A : Option Addr) (c : Nat) (d : CD) (w : World) (hd : d.Ok) :
    Calls Tryz.prog 74 #[.agg #[.int .i64 d.pc, .int .i64 d.sp, .int .i64 d.bank, .int .i64 d.level, .bool d.zero, .bool d.carry, .bool d.on, .bool d.halt, .slice A 16 c]] w fun e w' => e = .returned (.int .i64 d.flags) ∧ Below w.heap.size w w' := by
  have h1 := hd.bank
  have h2 := hd.level
  obtain ⟨h11, h12⟩ := h1
  obtain ⟨h21, h22⟩ := h2
  have HF : Hid (d.flags = d.level + 8 * d.bank + 32 * bitI d.zero + 64 * bitI d.carry + 128 * bitI d.on) := Lib.hid rfl
  clear hd
  obtain ⟨pc, sp, bank, level, zero, carry, on, halt, regs⟩ := d
  have hb0 := alloc_below w (.cells #[.int .i64 pc, .int .i64 sp, .int .i64 bank, .int .i64 level, .bool zero, .bool carry, .bool on, .bool halt, .slice A 16 c] 25)
  generalize CD.flags _ = f at HF ⊢
  simp only at h11 h12 h21 h22 HF ⊢
  cases zero <;> cases carry <;> cases on
  all_goals (
    go_enter Tryz.func74, Tryz.ntmps74
    go_wp2
    go_ret
    exact ⟨ret_int (by rw [HF.out]; simp [bitI]; try omega), hb0⟩)

set_option maxRecDepth 100000 in
set_option maxHeartbeats 2000000 in
theorem prPush (a : PA) (d : CD) (m : MD) (s : Int) (w : World) (v : Int) (hv : 0 ≤ v ∧ v ≤ 255) (hd : d.Ok) (hm : m.Ok) (h : PrAt w a d m s) :
    Calls Tryz.prog 73 #[.pointer (some ⟨a.p, 0, none⟩), .int .i64 v] w (GPr a d.down (m.put d.sp v) s w) := by
  have HC := h.cells
  have hsp := hd.sp
  have HW := Lib.hid (fun W => busWriteM a m W d.sp v (by omega) (by omega) hv.1 hv.2 hm)
  have HWr := Lib.hid (fun W => wrapI (d.sp - 1) W)
  have HP := Lib.hid h
  have HE : Hid (d.down = { d with sp := (d.sp - 1) % 256 }) := Lib.hid (by unfold CD.down; congr 1; omega)
  have HX0 : Hid (Box w.drew a.p 59 (procC a d s)) := Lib.hid h.X.drew
  have HK : Hid (∀ W, Box W a.p 59 (procC a d s) → W.cell? ⟨a.p, 1, none⟩ = some (.int .i64 d.sp) ∧ W.cell? ⟨a.p, 9, none⟩ = some (.pointer (some ⟨a.b0, 0, none⟩)) ∧ W.cell? ⟨a.p, 10, none⟩ = some (.pointer (some ⟨a.b1, 0, none⟩)) ∧ W.cell? ⟨a.p, 11, none⟩ = some (.pointer (some ⟨a.b2, 0, none⟩)) ∧ W.cell? ⟨a.p, 12, none⟩ = some (.pointer (some ⟨a.b3, 0, none⟩))) := Lib.hid (fun W X => ⟨X.cell 1 rfl, X.cell 9 rfl, X.cell 10 rfl, X.cell 11 rfl, X.cell 12 rfl⟩)
  have HB : Hid (BusAt w.drew a.R a.g a.b0 a.b1 a.b2 a.b3 a.A0 a.A1 a.c0 a.c1 m.r m.i m.z m.g m.s) := Lib.hid (h.B.step (Below.refl _ _).drew)
  have e2 : IntKind.i64.wrap (d.sp - 1) = d.sp - 1 := IntWalk.i64_in _ (by omega)
  obtain ⟨⟨c0, c1, c2, c3, c4, c5, c6, c7, c8⟩, ⟨c9, c10, c11, c12, c13⟩, cz⟩ := HC
  clear h hd hm hv hsp cz c0 c2 c3 c4 c5 c6 c7 c8 c13
  go_enter Tryz.func73, Tryz.ntmps73
  go_wp2
  go_region_held3 (fun W => W.cell? ⟨a.p, 1, none⟩ = some (.int .i64 d.sp) ∧ W.cell? ⟨a.p, 9, none⟩ = some (.pointer (some ⟨a.b0, 0, none⟩)) ∧ W.cell? ⟨a.p, 10, none⟩ = some (.pointer (some ⟨a.b1, 0, none⟩)) ∧ W.cell? ⟨a.p, 11, none⟩ = some (.pointer (some ⟨a.b2, 0, none⟩)) ∧ W.cell? ⟨a.p, 12, none⟩ = some (.pointer (some ⟨a.b3, 0, none⟩)))
    (first | exact HK.out _ HX0.out | exact HK.out _ HX1.out)
    (first | (go_at_call 111; refine (HW.out _ HB.out).mono ?_; rintro e w1 ⟨rfl, N1, N2, N3⟩; have HX1 := Lib.hid (N2.out _ _ _ (by decide) (by decide) HX0.out)))
  have HP1 := Lib.hid (PrAt.wrote ((HP.out.step (Below.refl _ _).drew)) N1.out N2.out N3)
  have HR1 := Lib.hid ((Runs.drew a.L w).trans (Runs.wrote HP.out.q.1 N2.out N3))
  obtain ⟨⟨_, x1, _⟩, _, xz⟩ := HP1.out.cells
  have xz1 := xz 1
  clear c1 c9 c10 c11 c12 N1 N2 N3 HP HX0 HX1 HK HB HW xz
  go_wp2_with (first | (go_at_call 112; refine (HWr.out _).mono ?_; rintro e w' ⟨rfl, rfl⟩))
  go_end0
  rw [HE.out]
  exact ⟨rfl, Lib.hid (HP1.out.put 1 _ _ _ rfl rfl), Lib.hid (HR1.out.trans (HP1.out.runs (Nat.le_refl _) 1 _))⟩
end Go.Proofs.YtcchhbkbnbphhaaGreatDoor

/- The processor's callAt and enter; processorOf. Written by gen_procm2.py. -/
namespace Go.Proofs.YtcchhbkbnbphhaaGreatDoor
open Go.RowKit

set_option maxRecDepth 100000 in
set_option maxHeartbeats 2000000 in
theorem prCallAt (a : PA) (d : CD) (m : MD) (s : Int) (w : World) (at' : Int) (hd : d.Ok) (hm : m.Ok) (h : PrAt w a d m s) :
    Calls Tryz.prog 72 #[.pointer (some ⟨a.p, 0, none⟩), .int .i64 at'] w (GPr a (callD d at') (callM d m) s w) := by
  have hpc := hd.pc
  obtain ⟨hpc0, hpc1⟩ := hpc
  have H1 := Lib.hid (fun W (q : PrAt W a d m s) => prPush a d m s W (d.pc / 256) (by omega) hd hm q)
  have H2 := Lib.hid (fun W (q : PrAt W a d.down (m.put d.sp (d.pc / 256)) s) => prPush a d.down (m.put d.sp (d.pc / 256)) s W (d.down.pc % 256) (by omega) hd.down (hm.put (by have := hd.sp; omega) (by have := hd.sp; omega) (by omega)) q)
  unfold GPr at H1 H2
  have HM : Hid (callM d m = (m.put d.sp (d.pc / 256)).put d.down.sp (d.down.pc % 256)) := Lib.hid rfl
  have HD : Hid (callD d at' = d.down.down.at at') := Lib.hid rfl
  rw [HM.out, HD.out]
  have hdp0 : 0 ≤ d.down.pc := hpc0
  have hdp1 : d.down.pc ≤ 4095 := hpc1
  generalize m.put d.sp (d.pc / 256) = m1 at H1 H2 ⊢
  generalize d.down = d1 at H1 H2 hdp0 hdp1 ⊢
  generalize m1.put d1.sp (d1.pc % 256) = m2 at H2 ⊢
  generalize d1.down = d2 at H2 ⊢
  have e1 : d.pc.tdiv 256 = d.pc / 256 := Int.tdiv_eq_ediv_of_nonneg hpc0
  have e2 : IntKind.i64.wrap (d.pc / 256) = d.pc / 256 := IntWalk.i64_in _ (by omega)
  have e3 : d1.pc.tmod 256 = d1.pc % 256 := Int.tmod_eq_emod_of_nonneg hdp0
  have HP := Lib.hid h
  obtain ⟨⟨c0, _, _, _, _, _, _, _, _⟩, ⟨_, _, _, _, _⟩, cz⟩ := HP.out.cells
  clear h hd hm HM HD cz
  go_enter Tryz.func72, Tryz.ntmps72
  go_wp2_with fail
  refine (H1.out _ HP.out).mono ?_
  rintro e w1 ⟨rfl, P1, R1⟩
  clear c0 H1 HP e1 e2
  obtain ⟨⟨c0, _, _, _, _, _, _, _, _⟩, ⟨_, _, _, _, _⟩, cz⟩ := P1.out.cells
  clear cz
  go_wp2_with fail
  refine (H2.out _ P1.out).mono ?_
  rintro e w2 ⟨rfl, P2, R2⟩
  have R := Lib.hid (R1.out.trans R2.out)
  clear c0 H2 P1 e3 R1 R2
  obtain ⟨⟨c0, _, _, _, _, _, _, _, _⟩, ⟨_, _, _, _, _⟩, cz⟩ := P2.out.cells
  have z0 := cz 0
  clear cz
  go_wp2
  go_end0
  exact ⟨rfl, Lib.hid (P2.out.put 0 _ _ _ rfl rfl), Lib.hid (R.out.trans (P2.out.runs (Nat.le_refl _) 0 _))⟩

set_option maxRecDepth 100000 in
set_option maxHeartbeats 2000000 in
theorem prEnter (a : PA) (d : CD) (m : MD) (s : Int) (w : World) (line level : Int) (hl : 0 ≤ line ∧ line ≤ 7) (hd : d.Ok) (hm : m.Ok) (h : PrAt w a d m s) :
    Calls Tryz.prog 37 #[.pointer (some ⟨a.p, 0, none⟩), .int .i64 line, .int .i64 level] w (GPr a (enterD d line level) (enterM d m) s w) := by
  have HO0 : ({ d with halt := false } : CD).Ok := ⟨hd.pc, hd.sp, hd.bank, hd.level, hd.len, hd.regs⟩
  have H1 := Lib.hid (fun W (q : PrAt W a { d with halt := false } m s) => prCallAt a { d with halt := false } m s W (704 + 4 * line) HO0 hm q)
  have HM0 : Hid (callM { d with halt := false } m = callM d m) := Lib.hid rfl
  rw [HM0.out] at H1
  have HdF : Hid (d.flags = (callD { d with halt := false } (704 + 4 * line)).flags) := Lib.hid rfl
  have HOc := HO0.call (a := 704 + 4 * line) (by omega) (by omega)
  have H2 := Lib.hid (fun W => cpuFlags a.A a.c (callD { d with halt := false } (704 + 4 * line)) W HOc)
  have H3 := Lib.hid (fun W (q : PrAt W a (callD { d with halt := false } (704 + 4 * line)) (callM d m) s) => prPush a (callD { d with halt := false } (704 + 4 * line)) (callM d m) s W d.flags hd.flags HOc (MD.Ok.call hd hm) q)
  rw [← HdF.out] at H2
  unfold GPr at H1 H3
  have HD : Hid (enterD d line level = { (callD { d with halt := false } (704 + 4 * line)).down with level := level }) := Lib.hid rfl
  have HM : Hid (enterM d m = (callM d m).put (callD { d with halt := false } (704 + 4 * line)).sp d.flags) := Lib.hid rfl
  rw [HD.out, HM.out]
  clear HD HM HM0 HdF HOc HO0
  generalize callM d m = m1 at H1 H3 ⊢
  generalize callD { d with halt := false } (704 + 4 * line) = d1 at H1 H2 H3 ⊢
  generalize d.flags = fl at H2 H3 ⊢
  generalize m1.put d1.sp fl = m2 at H3 ⊢
  generalize d1.down = d2 at H3 ⊢
  obtain ⟨l0, l1⟩ := hl
  have HP := Lib.hid h
  obtain ⟨⟨_, _, _, _, _, _, _, c7, _⟩, ⟨_, _, _, _, _⟩, cz⟩ := HP.out.cells
  have z7 := cz 7
  have P0 := Lib.hid (h.put 7 (.bool false) { d with halt := false } s rfl rfl)
  have R0 := Lib.hid (h.runs (Nat.le_refl _) 7 (.bool false))
  clear h hd hm cz
  go_enter Tryz.func37, Tryz.ntmps37
  go_wp2_with fail
  refine (H1.out _ P0.out).mono ?_
  rintro e w1 ⟨rfl, P1, R1⟩
  have R01 := Lib.hid (R0.out.trans R1.out)
  clear c7 z7 H1 HP P0 R0 R1
  obtain ⟨⟨c0, c1, c2, c3, c4, c5, c6, c7, c8⟩, ⟨_, _, _, _, _⟩, cz⟩ := P1.out.cells
  clear cz
  go_wp2_with fail
  refine (H2.out _).mono ?_
  rintro e w2 ⟨rfl, hb2⟩
  have P2 := Lib.hid (P1.out.step hb2)
  have R02 := Lib.hid (R01.out.trans (Runs.below hb2 P1.out.size))
  clear c0 c1 c2 c3 c4 c5 c6 c7 c8 P1 R01 H2 hb2
  go_wp2_with fail
  refine (H3.out _ P2.out).mono ?_
  rintro e w3 ⟨rfl, P3, R3⟩
  have R := Lib.hid (R02.out.trans R3.out)
  clear P2 R02 R3 H3
  obtain ⟨⟨_, _, _, c3, _, _, _, _, _⟩, ⟨_, _, _, _, _⟩, cz⟩ := P3.out.cells
  have z3 := cz 3
  clear cz
  go_wp2
  go_end0
  exact ⟨rfl, Lib.hid (P3.out.put 3 _ _ _ rfl rfl), Lib.hid (R.out.trans (P3.out.runs (Nat.le_refl _) 3 _))⟩

def GivesPr (d : CD) (m : MD) (w : World) (e : Ending) (w' : World) : Prop :=
  ∃ a : PA, a.L = w.heap.size ∧ e = .returned (.pointer (some ⟨a.p, 0, none⟩)) ∧ Hid (PrAt w' a d m (-1)) ∧ Below w.heap.size w w'

set_option maxRecDepth 100000 in
set_option maxHeartbeats 4000000 in
theorem processorOf (A : Option Addr) (c : Nat) (d : CD) (A0 A1 A2 A3 : Option Addr) (c0 c1 c2 c3 : Nat) (m : MD) (w : World) (hc : RepC w A d) (hm : RepM w A0 A1 A2 A3 m) :
    Calls Tryz.prog 22 #[.agg #[.int .i64 d.pc, .int .i64 d.sp, .int .i64 d.bank, .int .i64 d.level, .bool d.zero, .bool d.carry, .bool d.on, .bool d.halt, .slice A 16 c], .agg #[.slice A0 256 c0, .slice A1 32 c1, .slice A2 256 c2, .slice A3 16 c3, .int .i64 m.s]] w (GivesPr d m w) := by
  obtain ⟨W1, hW1⟩ : ∃ W1, W1 = ((w.alloc (.cells #[.int .i64 d.pc, .int .i64 d.sp, .int .i64 d.bank, .int .i64 d.level, .bool d.zero, .bool d.carry, .bool d.on, .bool d.halt, .slice A 16 c] 25)).alloc (.cells #[.slice A0 256 c0, .slice A1 32 c1, .slice A2 256 c2, .slice A3 16 c3, .int .i64 m.s] 31)) := ⟨_, rfl⟩
  have hb0 : Below w.heap.size w W1 := by rw [hW1]; exact (((Below.refl _ _).alloc (Nat.le_refl _) _).alloc (by simp; try omega) _)
  have Z2 : Hid (W1.heap.size = w.heap.size + 2) := Lib.hid (by rw [hW1]; simp)
  have X3 : Hid (Box W1 (w.heap.size) 25 #[.int .i64 d.pc, .int .i64 d.sp, .int .i64 d.bank, .int .i64 d.level, .bool d.zero, .bool d.carry, .bool d.on, .bool d.halt, .slice A 16 c]) := Lib.hid (by rw [hW1]; exact ((Box.new w 25 #[.int .i64 d.pc, .int .i64 d.sp, .int .i64 d.bank, .int .i64 d.level, .bool d.zero, .bool d.carry, .bool d.on, .bool d.halt, .slice A 16 c]).alloc _))
  have X4 : Hid (Box W1 (w.heap.size + 1) 31 #[.slice A0 256 c0, .slice A1 32 c1, .slice A2 256 c2, .slice A3 16 c3, .int .i64 m.s]) := Lib.hid (by rw [hW1]; simpa using (Box.new (w.alloc (.cells #[.int .i64 d.pc, .int .i64 d.sp, .int .i64 d.bank, .int .i64 d.level, .bool d.zero, .bool d.carry, .bool d.on, .bool d.halt, .slice A 16 c] 25)) 31 #[.slice A0 256 c0, .slice A1 32 c1, .slice A2 256 c2, .slice A3 16 c3, .int .i64 m.s]))
  have F5 : Hid (RepC W1 A d) := Lib.hid (hc.below hb0)
  have F6 : Hid (RepM W1 A0 A1 A2 A3 m) := Lib.hid (hm.below hb0)
  have HW0 := Lib.hid hW1
  clear hW1
  have HCl := Lib.hid (fun W (q : RepC W A d) => cloneI A 16 c d.regs W q.1.len (by omega) (by omega) q.2)
  unfold GivesRow at HCl
  have HBo := Lib.hid (fun W (q : RepM W A0 A1 A2 A3 m) => busOf A0 A1 A2 A3 c0 c1 c2 c3 m.r m.i m.z m.g m.s W q.1.r q.1.i q.1.z q.1.g q.1.zb q.2.1 q.2.2.1 q.2.2.2.1 q.2.2.2.2)
  unfold GivesBus at HBo
  clear hc hm
  have f7 := X3.out.cell 0 rfl
  have f8 := X3.out.cell 1 rfl
  have f9 := X3.out.cell 2 rfl
  have f10 := X3.out.cell 3 rfl
  have f11 := X3.out.cell 4 rfl
  have f12 := X3.out.cell 5 rfl
  have f13 := X3.out.cell 6 rfl
  have f14 := X3.out.cell 7 rfl
  have f15 := X3.out.cell 8 rfl
  have z16 := X3.out.frozen 0
  have z17 := X3.out.frozen 1
  have z18 := X3.out.frozen 2
  have z19 := X3.out.frozen 3
  have z20 := X3.out.frozen 4
  have z21 := X3.out.frozen 5
  have z22 := X3.out.frozen 6
  have z23 := X3.out.frozen 7
  have z24 := X3.out.frozen 8
  rw [HW0.out] at f7 f8 f9 f10 f11 f12 f13 f14 f15 z16 z17 z18 z19 z20 z21 z22 z23 z24
  go_enter Tryz.func22, Tryz.ntmps22
  go_wp2_with fail
  rw [← HW0.out]
  rw [← HW0.out] at f7 f8 f9 f10 f11 f12 f13 f14 f15 z16 z17 z18 z19 z20 z21 z22 z23 z24
  clear f7 f8 f9 f10 f11 f12 f13 f14 f15 z16 z17 z18 z19 z20 z21 z22 z23 z24
  refine (HCl.out _ F5.out).mono ?_
  rintro e w1 ⟨B, e0, rfl, FO, hq1⟩
  have X25 := Lib.hid (X3.out.step hq1)
  have X26 := Lib.hid (X4.out.step hq1)
  have F27 := Lib.hid (F5.out.below hq1)
  have F28 := Lib.hid (F6.out.below hq1)
  have hb29 := bt hb0 hq1
  have Z30 : Hid (W1.heap.size ≤ w1.heap.size) := Lib.hid hq1.size
  clear X3 X4 F5 F6 hb0 hq1
  have FO1 : Hid (OwnI w1 w.heap.size w1.heap.size B d.regs) := Lib.hid (FO.out.wideB (by have := Z2.out; have := Z30.out; omega) (Nat.le_refl _))
  clear FO
  clear F27 HCl
  have f31 := X25.out.cell 0 rfl
  have f32 := X25.out.cell 1 rfl
  have f33 := X25.out.cell 2 rfl
  have f34 := X25.out.cell 3 rfl
  have f35 := X25.out.cell 4 rfl
  have f36 := X25.out.cell 5 rfl
  have f37 := X25.out.cell 6 rfl
  have f38 := X25.out.cell 7 rfl
  have f39 := X25.out.cell 8 rfl
  have z40 := X25.out.frozen 0
  have z41 := X25.out.frozen 1
  have z42 := X25.out.frozen 2
  have z43 := X25.out.frozen 3
  have z44 := X25.out.frozen 4
  have z45 := X25.out.frozen 5
  have z46 := X25.out.frozen 6
  have z47 := X25.out.frozen 7
  have z48 := X25.out.frozen 8
  go_wp2
  obtain ⟨W49, hW49⟩ : ∃ W49, W49 = (w1.setCell ⟨w.heap.size, 8, none⟩ (.slice B 16 e0)) := ⟨_, rfl⟩
  have hB50 : Btw (w.heap.size) (w.heap.size + 1) w1 W49 := by rw [hW49]; exact ((Btw.refl _ _ _).setCell (p := ⟨w.heap.size, 8, none⟩) (Nat.le_refl _) (Nat.lt_succ_self _) _)
  have X51 : Hid (Box W49 (w.heap.size) 25 #[.int .i64 d.pc, .int .i64 d.sp, .int .i64 d.bank, .int .i64 d.level, .bool d.zero, .bool d.carry, .bool d.on, .bool d.halt, .slice B 16 e0]) := Lib.hid (by rw [hW49]; exact (X25.out.set 8 _))
  have X52 := Lib.hid (X26.out.btw hB50 (by have := Z2.out; have := Z30.out; omega))
  have F53 := Lib.hid (F28.out.off X25.out (by simp) hB50)
  have F54 := Lib.hid (FO1.out.awayB X25.out (by decide) hB50)
  have hb55 := Btw.lowSize hB50 hb29 (Nat.le_of_lt X25.out.lt) (by have := Z2.out; have := Z30.out; omega)
  have Z56 : Hid (w1.heap.size ≤ W49.heap.size) := Lib.hid hB50.size
  rw [← hW49]
  clear hW49 hB50 X25 X26 F28 FO1 hb29
  have HXM : Hid (Box W49.drew (w.heap.size) 25 #[.int .i64 d.pc, .int .i64 d.sp, .int .i64 d.bank, .int .i64 d.level, .bool d.zero, .bool d.carry, .bool d.on, .bool d.halt, .slice B 16 e0] ∧ Box W49.drew (w.heap.size + 1) 31 #[.slice A0 256 c0, .slice A1 32 c1, .slice A2 256 c2, .slice A3 16 c3, .int .i64 m.s]) := Lib.hid ⟨X51.out.drew, X52.out.drew⟩
  have HK : Hid (∀ W, Box W (w.heap.size) 25 #[.int .i64 d.pc, .int .i64 d.sp, .int .i64 d.bank, .int .i64 d.level, .bool d.zero, .bool d.carry, .bool d.on, .bool d.halt, .slice B 16 e0] ∧ Box W (w.heap.size + 1) 31 #[.slice A0 256 c0, .slice A1 32 c1, .slice A2 256 c2, .slice A3 16 c3, .int .i64 m.s] → W.cell? ⟨w.heap.size, 0, none⟩ = some (.int .i64 d.pc) ∧ W.cell? ⟨w.heap.size, 1, none⟩ = some (.int .i64 d.sp) ∧ W.cell? ⟨w.heap.size, 2, none⟩ = some (.int .i64 d.bank) ∧ W.cell? ⟨w.heap.size, 3, none⟩ = some (.int .i64 d.level) ∧ W.cell? ⟨w.heap.size, 4, none⟩ = some (.bool d.zero) ∧ W.cell? ⟨w.heap.size, 5, none⟩ = some (.bool d.carry) ∧ W.cell? ⟨w.heap.size, 6, none⟩ = some (.bool d.on) ∧ W.cell? ⟨w.heap.size, 7, none⟩ = some (.bool d.halt) ∧ W.cell? ⟨w.heap.size, 8, none⟩ = some (.slice B 16 e0) ∧ W.cell? ⟨w.heap.size + 1, 0, none⟩ = some (.slice A0 256 c0) ∧ W.cell? ⟨w.heap.size + 1, 1, none⟩ = some (.slice A1 32 c1) ∧ W.cell? ⟨w.heap.size + 1, 2, none⟩ = some (.slice A2 256 c2) ∧ W.cell? ⟨w.heap.size + 1, 3, none⟩ = some (.slice A3 16 c3) ∧ W.cell? ⟨w.heap.size + 1, 4, none⟩ = some (.int .i64 m.s)) := Lib.hid (fun W X => ⟨X.1.cell 0 rfl, X.1.cell 1 rfl, X.1.cell 2 rfl, X.1.cell 3 rfl, X.1.cell 4 rfl, X.1.cell 5 rfl, X.1.cell 6 rfl, X.1.cell 7 rfl, X.1.cell 8 rfl, X.2.cell 0 rfl, X.2.cell 1 rfl, X.2.cell 2 rfl, X.2.cell 3 rfl, X.2.cell 4 rfl⟩)
  have HMd : Hid (RepM W49.drew A0 A1 A2 A3 m) := Lib.hid (F53.out.below (Below.refl _ _).drew)
  have HOd : Hid (OwnI W49.drew w.heap.size w1.heap.size B d.regs) := Lib.hid (F54.out.below (Below.refl _ _).drew)
  have HBd : Hid (Below w.heap.size w W49.drew) := Lib.hid (bt hb55 (Below.refl _ _).drew)
  have HZ : Hid (w.heap.size ≤ w1.heap.size ∧ w1.heap.size ≤ W49.drew.heap.size) := Lib.hid ⟨by have := Z2.out; have := Z30.out; have := Z56.out; omega, by show w1.heap.size ≤ W49.heap.size; have := Z2.out; have := Z30.out; have := Z56.out; omega⟩
  go_region_held3 (fun W => W.cell? ⟨w.heap.size, 0, none⟩ = some (.int .i64 d.pc) ∧ W.cell? ⟨w.heap.size, 1, none⟩ = some (.int .i64 d.sp) ∧ W.cell? ⟨w.heap.size, 2, none⟩ = some (.int .i64 d.bank) ∧ W.cell? ⟨w.heap.size, 3, none⟩ = some (.int .i64 d.level) ∧ W.cell? ⟨w.heap.size, 4, none⟩ = some (.bool d.zero) ∧ W.cell? ⟨w.heap.size, 5, none⟩ = some (.bool d.carry) ∧ W.cell? ⟨w.heap.size, 6, none⟩ = some (.bool d.on) ∧ W.cell? ⟨w.heap.size, 7, none⟩ = some (.bool d.halt) ∧ W.cell? ⟨w.heap.size, 8, none⟩ = some (.slice B 16 e0) ∧ W.cell? ⟨w.heap.size + 1, 0, none⟩ = some (.slice A0 256 c0) ∧ W.cell? ⟨w.heap.size + 1, 1, none⟩ = some (.slice A1 32 c1) ∧ W.cell? ⟨w.heap.size + 1, 2, none⟩ = some (.slice A2 256 c2) ∧ W.cell? ⟨w.heap.size + 1, 3, none⟩ = some (.slice A3 16 c3) ∧ W.cell? ⟨w.heap.size + 1, 4, none⟩ = some (.int .i64 m.s))
    (first | exact HK.out _ HXM.out | exact HK.out _ HX1.out | exact HK.out _ HX2.out)
    (first | (go_at_call 50; refine (HBo.out _ HMd.out).mono ?_; rintro e w2 ⟨g, b0, b1, b2, b3, D0, D1, e1, e2, rfl, BA, hb2⟩; have HX1 := Lib.hid (And.intro (HXM.out.1.step hb2) (HXM.out.2.step hb2)); have HX2 := Lib.hid (And.intro (HX1.out.1.alloc (.cells #[.int .i64 d.pc, .int .i64 d.sp, .int .i64 d.bank, .int .i64 d.level, .bool d.zero, .bool d.carry, .bool d.on, .bool d.halt, .slice B 16 e0, .pointer (some ⟨b0, 0, none⟩), .pointer (some ⟨b1, 0, none⟩), .pointer (some ⟨b2, 0, none⟩), .pointer (some ⟨b3, 0, none⟩), .int .i64 (-1)] 59)) (HX1.out.2.alloc (.cells #[.int .i64 d.pc, .int .i64 d.sp, .int .i64 d.bank, .int .i64 d.level, .bool d.zero, .bool d.carry, .bool d.on, .bool d.halt, .slice B 16 e0, .pointer (some ⟨b0, 0, none⟩), .pointer (some ⟨b1, 0, none⟩), .pointer (some ⟨b2, 0, none⟩), .pointer (some ⟨b3, 0, none⟩), .int .i64 (-1)] 59)))))
  go_wp2
  go_ret
  obtain ⟨Wd, hWd⟩ : ∃ Wd, Wd = W49.drew := ⟨_, rfl⟩
  rw [← hWd] at BA hb2 HOd HBd HZ
  have hal := alloc_below w2 (.cells #[.int .i64 d.pc, .int .i64 d.sp, .int .i64 d.bank, .int .i64 d.level, .bool d.zero, .bool d.carry, .bool d.on, .bool d.halt, .slice B 16 e0, .pointer (some ⟨b0, 0, none⟩), .pointer (some ⟨b1, 0, none⟩), .pointer (some ⟨b2, 0, none⟩), .pointer (some ⟨b3, 0, none⟩), .int .i64 (-1)] 59)
  refine ⟨⟨w.heap.size, Wd.heap.size, w2.heap.size, g, b0, b1, b2, b3, B, D0, D1, e0, e1, e2⟩, rfl, rfl, Lib.hid ⟨Box.new w2 59 _, ?_, BA.out.step hal, ?_⟩, bt (bt HBd.out hb2) hal⟩
  · exact ((HOd.out.below hb2).below hal).wideB (Nat.le_refl _) HZ.out.2
  · exact ⟨by have := HZ.out; show w.heap.size ≤ Wd.heap.size; omega, by have := HZ.out; have := hb2.size; show w.heap.size ≤ w2.heap.size; omega⟩
end Go.Proofs.YtcchhbkbnbphhaaGreatDoor

/- An interrupt and the return from it, by reckoning: the step over the return reads back what the interrupt has pushed. -/
namespace Go.Proofs.YtcchhbkbnbphhaaGreatDoor
open Go.RowKit

theorem reg_low (k : Nat) (hk : k < 256) : regR k = 1 ∧ regK k = k := by
  rcases reg_ways k (by omega) with ⟨h2, e1, e2⟩ | ⟨h2, h3, e1, e2⟩ | ⟨h2, h3, e1, e2⟩ | ⟨h2, h3, e1, e2⟩
  · exact ⟨e1, e2⟩
  all_goals omega
theorem put_low (m : MD) (k : Nat) (hk : k < 256) (v : Int) : m.put k v = ⟨m.r.set k v, m.i, m.z, m.g, m.s⟩ := by
  obtain ⟨e1, e2⟩ := reg_low k hk
  unfold MD.put putR putI putZ putG putS
  rw [e1, e2, if_pos rfl, if_neg (by omega), if_neg (by omega), if_neg (by omega), if_neg (by omega)]
  rfl
theorem get_low (m : MD) (k : Nat) (hk : k < 256) : m.get k = m.r.getD k 0 := by
  obtain ⟨e1, e2⟩ := reg_low k hk
  unfold MD.get getV
  rw [e1, e2, if_pos rfl]
  rfl
theorem getD_set_same (l : List Int) (k : Nat) (v : Int) (hk : k < l.length) : (l.set k v).getD k 0 = v := by
  rw [List.getD_eq_getElem?_getD, List.getElem?_set_self hk]; rfl
theorem getD_set_ne (l : List Int) (k j : Nat) (v : Int) (hk : k ≠ j) : (l.set k v).getD j 0 = l.getD j 0 := by
  rw [List.getD_eq_getElem?_getD, List.getElem?_set_ne hk, ← List.getD_eq_getElem?_getD]
theorem enterM_eq {d : CD} {m : MD} (hd : d.Ok) (s s1 s2 : Nat) (hs : d.sp = s) (h0 : s < 256) (h1 : s1 = (s + 255) % 256) (h2 : s2 = (s + 254) % 256) :
    enterM d m = ⟨((m.r.set s (d.pc / 256)).set s1 (d.pc % 256)).set s2 d.flags, m.i, m.z, m.g, m.s⟩ := by
  have e1 : (d.sp + 255) % 256 = (s1 : Int) := by omega
  have e2 : ((s1 : Int) + 255) % 256 = (s2 : Int) := by omega
  unfold enterM callM
  rw [e1, e2, hs, put_low m s h0, put_low _ s1 (by omega), put_low _ s2 (by omega)]
theorem flags_back {d : CD} (hd : d.Ok) : d.flags % 8 = d.level ∧ d.flags / 8 % 4 = d.bank ∧ decide (d.flags / 32 % 2 = 1) = d.zero ∧ decide (d.flags / 64 % 2 = 1) = d.carry ∧ decide (d.flags / 128 % 2 = 1) = d.on := by
  have h1 := hd.level
  have h2 := hd.bank
  unfold CD.flags bitI
  refine ⟨by repeat' split
             all_goals omega, by repeat' split
                                 all_goals omega, ?_, ?_, ?_⟩
  · cases d.zero <;> (simp only [decide_eq_true_eq, decide_eq_false_iff_not, Bool.false_eq_true, if_true, if_false]; (repeat' split) <;> omega)
  · cases d.carry <;> (simp only [decide_eq_true_eq, decide_eq_false_iff_not, Bool.false_eq_true, if_true, if_false]; (repeat' split) <;> omega)
  · cases d.on <;> (simp only [decide_eq_true_eq, decide_eq_false_iff_not, Bool.false_eq_true, if_true, if_false]; (repeat' split) <;> omega)
theorem back_fetch {d : CD} {m : MD} (line : Nat) (hl : line < 8) (hpc : d.pc = 704 + 4 * (line : Int)) (hz : m.z.getD (192 + 4 * line) 0 = 16) (hs : m.s = 0) : (fetchF d m).1 = 2 := by
  have e : m.get d.pc = 16 := by
    rcases reg_ways (704 + 4 * line) (by omega) with ⟨h2, e1, e2⟩ | ⟨h2, h3, e1, e2⟩ | ⟨h2, h3, e1, e2⟩ | ⟨h2, h3, e1, e2⟩
    · omega
    · omega
    · have q : d.pc = ((704 + 4 * line : Nat) : Int) := by omega
      unfold MD.get getV
      rw [q, e1, e2, if_neg (by omega), if_neg (by omega), if_pos rfl, hs]
      unfold readV
      rw [if_neg (by omega)]
      rw [show (((704 + 4 * line - 512 : Nat) : Int)).toNat = 192 + 4 * line by omega]
      exact hz
    · omega
  unfold fetchF decV
  rw [e]
  have : decArg 16 (m.get ((d.pc + 1) % 4096)) (m.get ((d.pc + 2) % 4096)) = 0 := by unfold decArg; rfl
  rw [this]
  rfl
theorem back_step {d : CD} {m : MD} (line level : Nat) (hd : d.Ok) (hh : d.halt = false) (hm : m.Ok) (hl : line < 8) (hz : m.z.getD (192 + 4 * line) 0 = 16) (hs : m.s = 0) :
    stepD (enterD d line level) (enterM d m) = d ∧ stepN (enterD d line level) (enterM d m) = 8 ∧ stepS (enterD d line level) (enterM d m) = -1 := by
  obtain ⟨s, es⟩ : ∃ s : Nat, d.sp = s := ⟨d.sp.toNat, by have := hd.sp; omega⟩
  have hs0 : s < 256 := by have := hd.sp; omega
  have eM := enterM_eq (m := m) hd s ((s + 255) % 256) ((s + 254) % 256) es hs0 rfl rfl
  have f1 : (fetchF (enterD d line level) (enterM d m)).1 = 2 := back_fetch line hl rfl (by rw [eM]; exact hz) (by rw [eM]; exact hs)
  obtain ⟨b1, b2, b3, b4, b5⟩ := flags_back hd
  have hpc := hd.pc
  have hr := hm.r
  refine ⟨?_, ?_, ?_⟩
  · unfold stepD
    rw [if_neg (by show ¬ (false = true); simp), f1]
    unfold execD
    rw [if_neg (by decide), if_pos rfl]
    have g1 : ((nextD (enterD d line level) (enterM d m)).sp + 1) % 256 = (((s + 254) % 256 : Nat) : Int) := by
      show ((((d.sp + 255) % 256 + 255) % 256 + 255) % 256 + 1) % 256 = _
      rw [es]; omega
    have g2 : ((((s + 254) % 256 : Nat) : Int) + 1) % 256 = (((s + 255) % 256 : Nat) : Int) := by omega
    have g3 : ((((s + 255) % 256 : Nat) : Int) + 1) % 256 = (s : Int) := by omega
    unfold retiD backD
    rw [show (nextD (enterD d line level) (enterM d m)).up.sp = ((nextD (enterD d line level) (enterM d m)).sp + 1) % 256 from rfl, g1, g2, g3]
    rw [eM, get_low _ _ (by omega : (s + 254) % 256 < 256), get_low _ _ (by omega : (s + 255) % 256 < 256), get_low _ _ hs0]
    simp only
    rw [getD_set_same _ _ _ (by simp; omega), getD_set_ne _ _ _ _ (by omega), getD_set_same _ _ _ (by simp; omega), getD_set_ne _ _ _ _ (by omega), getD_set_ne _ _ _ _ (by omega), getD_set_same _ _ _ (by omega)]
    rw [show (d.pc % 256 + 256 * (d.pc / 256)) % 4096 = d.pc by omega]
    unfold CD.toFlags
    rw [b1, b2, b3, b4, b5]
    obtain ⟨dpc, dsp, dbank, dlevel, dzero, dcarry, don, dhalt, dregs⟩ := d
    simp only at hh es hpc ⊢
    subst hh
    simp only [CD.at, CD.up, nextD, enterD, callD, CD.down, CD.mk.injEq, true_and, and_true]
    rw [es]
    omega
  · unfold stepN
    rw [if_neg (by show ¬ (false = true); simp), f1]
    rfl
  · unfold stepS
    rw [if_neg (by show ¬ (false = true); simp), f1]
    rfl
end Go.Proofs.YtcchhbkbnbphhaaGreatDoor

/- SameMem on both sides; the memory bus's functions on leaves. Written by a script (gen_memapi.py). -/
namespace Go.Proofs.YtcchhbkbnbphhaaGreatDoor
open Go.RowKit

section
variable (A0 A1 A2 A3 : Option Addr) (n0 n1 n2 n3 c0 c1 c2 c3 : Nat) (d0 d1 d2 : List Int) (d3 : List Bool) (d4 : Int) (B0 B1 B2 B3 : Option Addr) (m0 m1 m2 m3 e0 e1 e2 e3 : Nat) (g0 g1 g2 : List Int) (g3 : List Bool) (g4 : Int) (w : World)
end

section
variable (A0 A1 A2 A3 : Option Addr) (c0 c1 c2 c3 : Nat) (d0 d1 d2 : List Int) (d3 : List Bool) (d4 : Int) (w : World)
end
section
variable (A0 A1 A2 A3 : Option Addr) (c0 c1 c2 c3 : Nat) (d0 d1 d2 : List Int) (d3 : List Bool) (d4 : Int) (a : Int) (w : World)
end
section
variable (A0 A1 A2 A3 : Option Addr) (c0 c1 c2 c3 : Nat) (d0 d1 d2 : List Int) (d3 : List Bool) (d4 : Int) (a v : Int) (w : World)
end
section
variable (A0 A1 A2 A3 : Option Addr) (c0 c1 c2 c3 : Nat) (d0 d1 d2 : List Int) (d3 : List Bool) (d4 : Int) (B0 B1 B2 B3 : Option Addr) (e0 e1 e2 e3 : Nat) (g0 g1 g2 : List Int) (g3 : List Bool) (g4 : Int) (w : World)
end
end Go.Proofs.YtcchhbkbnbphhaaGreatDoor
