/- The processor's own methods: wrap, place, flags, push, callAt, enter; processorOf. Written by gen_procm.py. -/
import Derived.Test.YtieljgoodmoacaaProc
import Derived.Test.YtieljgoodmoacaaCpuSpec2
import Derived.Deep.RegionHeld3
namespace Go.Proofs.Ytieljgoodmoacaa
open Go.RowKit

set_option maxRecDepth 100000 in
theorem wrapI (v : Int) (w : World) : Calls Try.prog 81 #[.int .i64 v] w fun e w' => e = .returned (.int .i64 (v % 256)) ∧ w = w' := by
  have h := and_255 v
  go_enter Try.func81, Try.ntmps81
  go_wp2
  go_ret
  exact ⟨rfl, rfl⟩
def WritesM (a : PA) (m : MD) (w : World) (e : Ending) (w' : World) : Prop :=
  e = .returned (.tuple #[]) ∧ Hid (BusAt w' a.R a.g a.b0 a.b1 a.b2 a.b3 a.A0 a.A1 a.c0 a.c1 m.r m.i m.z m.g m.s) ∧ Hid (∀ b t cs, t ≠ 3 → t ≠ 99 → Box w b t cs → Box w' b t cs) ∧ Below a.R w w'
set_option maxRecDepth 100000 in
theorem busWriteM (a : PA) (m : MD) (w : World) (k v : Int) (h0 : 0 ≤ k) (h1 : k ≤ 4095) (hv0 : 0 ≤ v) (hv1 : v ≤ 255) (hm : m.Ok) (B : BusAt w a.R a.g a.b0 a.b1 a.b2 a.b3 a.A0 a.A1 a.c0 a.c1 m.r m.i m.z m.g m.s) :
    Calls Try.prog 80 #[.agg #[.pointer (some ⟨a.b0, 0, none⟩), .pointer (some ⟨a.b1, 0, none⟩), .pointer (some ⟨a.b2, 0, none⟩), .pointer (some ⟨a.b3, 0, none⟩)], .int .i64 k, .int .i64 v] w (WritesM a (m.put k v) w) := by
  obtain ⟨j, rfl⟩ : ∃ j : Nat, k = j := ⟨k.toNat, by omega⟩
  obtain ⟨u, rfl⟩ : ∃ u : Nat, v = u := ⟨v.toNat, by omega⟩
  exact busWrite a.R a.g a.b0 a.b1 a.b2 a.b3 a.A0 a.A1 a.c0 a.c1 m.r m.i m.z m.g m.s w j u (by omega) (by omega) hm.r hm.i hm.z hm.g hm.s hm.zb B
theorem OwnI.lowB {w w' : World} {lo hi n : Nat} {A : Option Addr} {zs : List Int} (h : OwnI w lo hi A zs) (k : Below n w w') (hn : hi ≤ n) : OwnI w' lo hi A zs := h.btw (Btw.of_low k) (.inl hn)
theorem PrAt.wrote {w w' : World} {a : PA} {d : CD} {m m' : MD} {s : Int} (h : PrAt w a d m s) (N1 : BusAt w' a.R a.g a.b0 a.b1 a.b2 a.b3 a.A0 a.A1 a.c0 a.c1 m'.r m'.i m'.z m'.g m'.s) (N2 : ∀ b t cs, t ≠ 3 → t ≠ 99 → Box w b t cs → Box w' b t cs) (N3 : Below a.R w w') : PrAt w' a d m' s :=
  ⟨N2 _ _ _ (by decide) (by decide) h.X, h.G.lowB N3 (Nat.le_refl _), N1, h.q⟩
theorem Runs.wrote {w w' : World} {L R : Nat} (hl : L ≤ R) (N2 : ∀ b t cs, t ≠ 3 → t ≠ 99 → Box w b t cs → Box w' b t cs) (N3 : Below R w w') : Runs L w w' := ⟨fun b t cs h1 h2 _ X => N2 b t cs h1 h2 X, N3.mono hl⟩
theorem Runs.refl (L : Nat) (w : World) : Runs L w w := ⟨KeepsBox.refl w, Below.refl _ _⟩
theorem Runs.drew (L : Nat) (w : World) : Runs L w w.drew := ⟨fun _ _ _ _ _ _ X => X.drew, (Below.refl _ _).drew⟩

set_option maxRecDepth 100000 in
set_option maxHeartbeats 2000000 in
theorem cpuPlace (A : Option Addr) (c : Nat) (d : CD) (w : World) (k : Int) (hb : 0 ≤ d.bank ∧ d.bank ≤ 3) (h0 : 0 ≤ k) (h1 : k ≤ 3) :
    Calls Try.prog 39 #[.agg #[.int .i64 d.pc, .int .i64 d.sp, .int .i64 d.bank, .int .i64 d.level, .bool d.zero, .bool d.carry, .bool d.on, .bool d.halt, .slice A 16 c], .int .i64 k] w fun e w' => e = .returned (.int .i64 (4 * d.bank + k)) ∧ Below w.heap.size w w' := by
  obtain ⟨W1, hW1⟩ : ∃ W1, W1 = (w.alloc (.cells #[.int .i64 d.pc, .int .i64 d.sp, .int .i64 d.bank, .int .i64 d.level, .bool d.zero, .bool d.carry, .bool d.on, .bool d.halt, .slice A 16 c] 24)) := ⟨_, rfl⟩
  have hb0 : Below w.heap.size w W1 := by rw [hW1]; exact ((Below.refl _ _).alloc (Nat.le_refl _) _)
  have Z2 : Hid (W1.heap.size = w.heap.size + 1) := Lib.hid (by rw [hW1]; simp)
  have X3 : Hid (Box W1 (w.heap.size) 24 #[.int .i64 d.pc, .int .i64 d.sp, .int .i64 d.bank, .int .i64 d.level, .bool d.zero, .bool d.carry, .bool d.on, .bool d.halt, .slice A 16 c]) := Lib.hid (by rw [hW1]; exact (Box.new w 24 #[.int .i64 d.pc, .int .i64 d.sp, .int .i64 d.bank, .int .i64 d.level, .bool d.zero, .bool d.carry, .bool d.on, .bool d.halt, .slice A 16 c]))
  have HW0 := Lib.hid hW1
  clear hW1
  have f4 := X3.out.cell 0 rfl
  have f5 := X3.out.cell 1 rfl
  have f6 := X3.out.cell 2 rfl
  have f7 := X3.out.cell 3 rfl
  have f8 := X3.out.cell 4 rfl
  have f9 := X3.out.cell 5 rfl
  have f10 := X3.out.cell 6 rfl
  have f11 := X3.out.cell 7 rfl
  have f12 := X3.out.cell 8 rfl
  rw [HW0.out] at f4 f5 f6 f7 f8 f9 f10 f11 f12
  have HB := Lib.hid hb0
  rw [HW0.out] at HB
  clear hb0
  obtain ⟨q1, q2⟩ := hb
  go_enter Try.func39, Try.ntmps39
  go_wp2
  go_ret
  exact ⟨rfl, HB.out⟩

set_option maxRecDepth 100000 in
set_option maxHeartbeats 2000000 in
theorem cpuFlags (A : Option Addr) (c : Nat) (d : CD) (w : World) (hd : d.Ok) :
    Calls Try.prog 72 #[.agg #[.int .i64 d.pc, .int .i64 d.sp, .int .i64 d.bank, .int .i64 d.level, .bool d.zero, .bool d.carry, .bool d.on, .bool d.halt, .slice A 16 c]] w fun e w' => e = .returned (.int .i64 d.flags) ∧ Below w.heap.size w w' := by
  have h1 := hd.bank
  have h2 := hd.level
  obtain ⟨h11, h12⟩ := h1
  obtain ⟨h21, h22⟩ := h2
  have HF : Hid (d.flags = d.level + 8 * d.bank + 32 * bitI d.zero + 64 * bitI d.carry + 128 * bitI d.on) := Lib.hid rfl
  clear hd
  obtain ⟨pc, sp, bank, level, zero, carry, on, halt, regs⟩ := d
  have hb0 := alloc_below w (.cells #[.int .i64 pc, .int .i64 sp, .int .i64 bank, .int .i64 level, .bool zero, .bool carry, .bool on, .bool halt, .slice A 16 c] 24)
  generalize CD.flags _ = f at HF ⊢
  simp only at h11 h12 h21 h22 HF ⊢
  cases zero <;> cases carry <;> cases on
  all_goals (
    go_enter Try.func72, Try.ntmps72
    go_wp2
    go_ret
    exact ⟨ret_int (by rw [HF.out]; simp [bitI]; try omega), hb0⟩)

set_option maxRecDepth 100000 in
set_option maxHeartbeats 2000000 in
theorem prPush (a : PA) (d : CD) (m : MD) (s : Int) (w : World) (v : Int) (hv : 0 ≤ v ∧ v ≤ 255) (hd : d.Ok) (hm : m.Ok) (h : PrAt w a d m s) :
    Calls Try.prog 71 #[.pointer (some ⟨a.p, 0, none⟩), .int .i64 v] w (GPr a d.down (m.put d.sp v) s w) := by
  have HC := h.cells
  have hsp := hd.sp
  have HW := Lib.hid (fun W => busWriteM a m W d.sp v (by omega) (by omega) hv.1 hv.2 hm)
  have HWr := Lib.hid (fun W => wrapI (d.sp - 1) W)
  have HP := Lib.hid h
  have HE : Hid (d.down = { d with sp := (d.sp - 1) % 256 }) := Lib.hid (by unfold CD.down; congr 1; omega)
  have HX0 : Hid (Box w.drew a.p 78 (procC a d s)) := Lib.hid h.X.drew
  have HK : Hid (∀ W, Box W a.p 78 (procC a d s) → W.cell? ⟨a.p, 1, none⟩ = some (.int .i64 d.sp) ∧ W.cell? ⟨a.p, 9, none⟩ = some (.pointer (some ⟨a.b0, 0, none⟩)) ∧ W.cell? ⟨a.p, 10, none⟩ = some (.pointer (some ⟨a.b1, 0, none⟩)) ∧ W.cell? ⟨a.p, 11, none⟩ = some (.pointer (some ⟨a.b2, 0, none⟩)) ∧ W.cell? ⟨a.p, 12, none⟩ = some (.pointer (some ⟨a.b3, 0, none⟩))) := Lib.hid (fun W X => ⟨X.cell 1 rfl, X.cell 9 rfl, X.cell 10 rfl, X.cell 11 rfl, X.cell 12 rfl⟩)
  have HB : Hid (BusAt w.drew a.R a.g a.b0 a.b1 a.b2 a.b3 a.A0 a.A1 a.c0 a.c1 m.r m.i m.z m.g m.s) := Lib.hid (h.B.step (Below.refl _ _).drew)
  have e2 : IntKind.i64.wrap (d.sp - 1) = d.sp - 1 := IntWalk.i64_in _ (by omega)
  obtain ⟨⟨c0, c1, c2, c3, c4, c5, c6, c7, c8⟩, ⟨c9, c10, c11, c12, c13⟩, cz⟩ := HC
  clear h hd hm hv hsp cz c0 c2 c3 c4 c5 c6 c7 c8 c13
  go_enter Try.func71, Try.ntmps71
  go_wp2
  go_region_held3 (fun W => W.cell? ⟨a.p, 1, none⟩ = some (.int .i64 d.sp) ∧ W.cell? ⟨a.p, 9, none⟩ = some (.pointer (some ⟨a.b0, 0, none⟩)) ∧ W.cell? ⟨a.p, 10, none⟩ = some (.pointer (some ⟨a.b1, 0, none⟩)) ∧ W.cell? ⟨a.p, 11, none⟩ = some (.pointer (some ⟨a.b2, 0, none⟩)) ∧ W.cell? ⟨a.p, 12, none⟩ = some (.pointer (some ⟨a.b3, 0, none⟩)))
    (first | exact HK.out _ HX0.out | exact HK.out _ HX1.out)
    (first | (go_at_call 80; refine (HW.out _ HB.out).mono ?_; rintro e w1 ⟨rfl, N1, N2, N3⟩; have HX1 := Lib.hid (N2.out _ _ _ (by decide) (by decide) HX0.out)))
  have HP1 := Lib.hid (PrAt.wrote ((HP.out.step (Below.refl _ _).drew)) N1.out N2.out N3)
  have HR1 := Lib.hid ((Runs.drew a.L w).trans (Runs.wrote HP.out.q.1 N2.out N3))
  obtain ⟨⟨_, x1, _⟩, _, xz⟩ := HP1.out.cells
  have xz1 := xz 1
  clear c1 c9 c10 c11 c12 N1 N2 N3 HP HX0 HX1 HK HB HW xz
  go_wp2_with (first | (go_at_call 81; refine (HWr.out _).mono ?_; rintro e w' ⟨rfl, rfl⟩))
  go_end0
  rw [HE.out]
  exact ⟨rfl, Lib.hid (HP1.out.put 1 _ _ _ rfl rfl), Lib.hid (HR1.out.trans (HP1.out.runs (Nat.le_refl _) 1 _))⟩
end Go.Proofs.Ytieljgoodmoacaa
