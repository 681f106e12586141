/- Texts of this claim, one behind the other: CpuLaws. -/
import Derived.Test.YtcchhbkbnbphhaaGreatDoorStpI
import Derived.Test.YtcchhbkbnbphhaaGreatDoorStpS
import Derived.Test.YtcchhbkbnbphhaaGreatDoorCpuOk
import Derived.Test.YtcchhbkbnbphhaaGreatDoorM12
/- What FnCpu and FnBack call, on data: a step of the program and of the model, a processor that is valid, one of its registers; two processors, two memories that are the same. -/
namespace Go.Proofs.YtcchhbkbnbphhaaGreatDoor
open Go.RowKit

theorem own_row {w : World} {lo hi : Nat} {A : Option Addr} {n c : Nat} {zs : List Int} (_hl : zs.length = n) (h : OwnL w lo hi (.slice A n c) (.I zs)) : OwnI w lo hi A zs := by
  obtain ⟨B, d, e, o⟩ := h
  injection e with e1 e2 e3; subst e1; exact o
theorem own_rowB {w : World} {lo hi : Nat} {A : Option Addr} {n c : Nat} {gs : List Bool} (_hl : gs.length = n) (h : OwnL w lo hi (.slice A n c) (.B gs)) : OwnB w lo hi A gs := by
  obtain ⟨B, d, e, o⟩ := h
  injection e with e1 e2 e3; subst e1; exact o
def OwnM (w : World) (lo hi : Nat) (A0 A1 A2 A3 : Option Addr) (c0 c1 c2 c3 : Nat) (m : MD) : Prop := m.Ok ∧ OwnA w lo hi [.slice A0 256 c0, .slice A1 32 c1, .slice A2 256 c2, .slice A3 16 c3] [.I m.r, .I m.i, .I m.z, .B m.g]
theorem OwnM.rep {w : World} {lo hi : Nat} {A0 A1 A2 A3 : Option Addr} {c0 c1 c2 c3 : Nat} {m : MD} (h : OwnM w lo hi A0 A1 A2 A3 c0 c1 c2 c3 m) : RepM w A0 A1 A2 A3 m :=
  ⟨h.1, (own_row h.1.r h.2.1.1).reads, (own_row h.1.i h.2.1.2.1).reads, (own_row h.1.z h.2.1.2.2.1).reads, (own_rowB h.1.g h.2.1.2.2.2.1).reads⟩
theorem OwnM.put {w : World} {lo hi : Nat} {A0 A1 A2 A3 : Option Addr} {c0 c1 c2 c3 : Nat} {m : MD} (h : OwnM w lo hi A0 A1 A2 A3 c0 c1 c2 c3 m) (k : Nat) (hk : k < 256) :
    ∃ b, A2 = some ⟨b, 0, none⟩ ∧ (∃ v, w.cell? ⟨b, k, none⟩ = some (.int .i64 v)) ∧ w.frozen? ⟨b, k, none⟩ = false ∧ lo ≤ b ∧ b < hi ∧
      ∀ x : Int, 0 ≤ x ∧ x ≤ 255 → OwnM (w.setCell ⟨b, k, none⟩ (.int .i64 x)) lo hi A0 A1 A2 A3 c0 c1 c2 c3 { m with z := m.z.set k x } := by
  obtain ⟨hok, O⟩ := h
  have O2 := own_row hok.z O.1.2.2.1
  obtain ⟨b, mm, f, rfl, hc, hf, h1, h2, hr, hput⟩ := O2.put k (by rw [hok.z]; exact hk)
  refine ⟨b, rfl, ⟨_, hc⟩, hf, h1, h2, fun x hx => ⟨⟨hok.r, hok.i, by rw [List.length_set]; exact hok.z, hok.g, hok.s, hok.rb, hok.ib, set_byte hok.zb k hx⟩, ?_⟩⟩
  refine OwnA.reseg (a := [.slice A0 256 c0, .slice A1 32 c1]) (m := [.slice (some ⟨b, 0, none⟩) 256 c2]) (b := [.slice A3 16 c3]) (da := [.I m.r, .I m.i]) (dm := [.I m.z]) (dm' := [.I (m.z.set k x)]) (db := [.B m.g]) O rfl rfl (OwnA.one (d := .I (m.z.set k x)) (show ∃ A c, Value.slice (some ⟨b, 0, none⟩) 256 c2 = .slice A (m.z.set k x).length c ∧ OwnI _ lo hi A (m.z.set k x) from ⟨_, c2, by rw [List.length_set, hok.z], hput x⟩)) ?_
  have hs : ((w.setCell ⟨b, k, none⟩ (.int .i64 x))).heap.size = w.heap.size := by simp [World.setCell]
  exact ⟨rfl, rfl, rfl, Nat.le_of_eq hs.symm, fun j _ hm => Below.heap_setCell w ⟨b, k, none⟩ _ j (fun e => hm (by subst e; simp [blkL]))⟩
theorem OwnM.spot {w : World} {lo hi b : Nat} {A0 A1 A3 : Option Addr} {c0 c1 c2 c3 : Nat} {m : MD} (h : OwnM w lo hi A0 A1 (some ⟨b, 0, none⟩) A3 c0 c1 c2 c3 m) (k : Nat) (hk : k < 256) : (∃ v, w.cell? ⟨b, k, none⟩ = some (.int .i64 v)) ∧ w.frozen? ⟨b, k, none⟩ = false := by
  obtain ⟨b', e, hc, hz, -⟩ := h.put k hk
  injection e with e
  injection e with e _ _
  subst e
  exact ⟨hc, hz⟩
def StpO (d : CD) (m : MD) (w : World) (e' : Ending) (w' : World) : Prop :=
  ∃ B B0 B1 B2 B3 e e0 e1 e2 e3, e' = .returned (.tuple #[.agg #[.int .i64 (stepD d m).pc, .int .i64 (stepD d m).sp, .int .i64 (stepD d m).bank, .int .i64 (stepD d m).level, .bool (stepD d m).zero, .bool (stepD d m).carry, .bool (stepD d m).on, .bool (stepD d m).halt, .slice B 16 e], .agg #[.slice B0 256 e0, .slice B1 32 e1, .slice B2 256 e2, .slice B3 16 e3, .int .i64 (stepM d m).s], .int .i64 (stepN d m), .int .i64 (stepS d m), .int .i64 0]) ∧ Hid (RepC w' B (stepD d m) ∧ RepM w' B0 B1 B2 B3 (stepM d m)) ∧ Below w.heap.size w w'
set_option maxRecDepth 100000 in
theorem stepO {w : World} {A A0 A1 A2 A3 : Option Addr} {d : CD} {m : MD} (c c0 c1 c2 c3 : Nat) (h : RepC w A d) (k : RepM w A0 A1 A2 A3 m) (ht : OpsT w) :
    Calls Tryz.prog 7 #[.agg #[.int .i64 d.pc, .int .i64 d.sp, .int .i64 d.bank, .int .i64 d.level, .bool d.zero, .bool d.carry, .bool d.on, .bool d.halt, .slice A 16 c], .agg #[.slice A0 256 c0, .slice A1 32 c1, .slice A2 256 c2, .slice A3 16 c3, .int .i64 m.s]] w (StpO d m w) := by
  have q : ∀ n : Nat, n ≤ 256 → n ≤ maxLen := fun n hn => by unfold maxLen; omega
  refine (implStepCpu A 16 c d A0 A1 A2 A3 256 32 256 16 c0 c1 c2 c3 m w h.1.len k.1.r k.1.i k.1.z k.1.g (q _ (by omega)) (q _ (by omega)) (q _ (by omega)) (q _ (by omega)) (q _ (by omega)) h.2 k.2.1 k.2.2.1 k.2.2.2.1 k.2.2.2.2 ht).mono ?_
  obtain ⟨g1, g2, g3, g4, g5⟩ := stp_ok (d := d) (m := m) (by rw [CD.ok_iff.2 h.1, MD.ok_iff.2 k.1]; rfl)
  rw [g1, g2, g3, g4, g5]
  have o1 := CD.Ok.step h.1 m
  have o2 := MD.Ok.step h.1 k.1
  rintro e' w' ⟨B, B0, B1, B2, B3, e, e0, e1, e2, e3, rfl, O, hb⟩
  simp only [o1.len, o2.r, o2.i, o2.z, o2.g] at O ⊢
  exact ⟨B, B0, B1, B2, B3, e, e0, e1, e2, e3, rfl, Lib.hid ⟨⟨o1, (own_row o1.len O.out.1.1).reads⟩, o2, (own_row o2.r O.out.1.2.1).reads, (own_row o2.i O.out.1.2.2.1).reads, (own_row o2.z O.out.1.2.2.2.1).reads, (own_rowB o2.g O.out.1.2.2.2.2.1).reads⟩, hb⟩
set_option maxRecDepth 100000 in
theorem cpuOkS {w : World} {A : Option Addr} {d : CD} (c : Nat) (h : RepC w A d) : Calls Tryz.prog 11 #[.agg #[.int .i64 d.pc, .int .i64 d.sp, .int .i64 d.bank, .int .i64 d.level, .bool d.zero, .bool d.carry, .bool d.on, .bool d.halt, .slice A 16 c]] w fun e w' => e = .returned (.bool true) ∧ Below w.heap.size w w' := by
  have := implCpuOK A 16 c d.pc d.sp d.bank d.level d.zero d.carry d.on d.halt d.regs w h.1.len (by unfold maxLen; omega) h.2
  rwa [show okCpu d.pc d.sp d.bank d.level d.regs = true from CD.ok_iff.2 h.1] at this
set_option maxRecDepth 100000 in
theorem regAtS {w : World} {A : Option Addr} {d : CD} (c : Nat) (k : Nat) (hk : k < 4) (h : RepC w A d) : Calls Tryz.prog 12 #[.agg #[.int .i64 d.pc, .int .i64 d.sp, .int .i64 d.bank, .int .i64 d.level, .bool d.zero, .bool d.carry, .bool d.on, .bool d.halt, .slice A 16 c], .int .i64 (k : Int)] w fun e w' => e = .returned (.tuple #[.int .i64 (d.regs.getD (4 * d.bank + k).toNat 0), .int .i64 0]) ∧ Below w.heap.size w w' := by
  have := implRegAt A 16 c d.pc d.sp d.bank d.level d.zero d.carry d.on d.halt d.regs (k : Int) w h.1.len (by unfold maxLen; omega) h.2
  rwa [show regF d.pc d.sp d.bank d.level d.regs (k : Int) = (d.regs.getD (4 * d.bank + k).toNat 0, 0) by unfold regF; rw [if_pos (show okCpu d.pc d.sp d.bank d.level d.regs = true from CD.ok_iff.2 h.1), if_pos (by unfold rngB; simp; omega)]] at this
set_option maxRecDepth 100000 in
theorem stepSO {w : World} {A A0 A1 A2 A3 : Option Addr} {d : CD} {m : MD} (c c0 c1 c2 c3 : Nat) (h : RepC w A d) (k : RepM w A0 A1 A2 A3 m) :
    Calls Tryz.prog 8 #[.agg #[.int .i64 d.pc, .int .i64 d.sp, .int .i64 d.bank, .int .i64 d.level, .bool d.zero, .bool d.carry, .bool d.on, .bool d.halt, .slice A 16 c], .agg #[.slice A0 256 c0, .slice A1 32 c1, .slice A2 256 c2, .slice A3 16 c3, .int .i64 m.s]] w (StpO d m w) := by
  have q : ∀ n : Nat, n ≤ 256 → n ≤ maxLen := fun n hn => by unfold maxLen; omega
  refine (specStepCpu A 16 c d A0 A1 A2 A3 256 32 256 16 c0 c1 c2 c3 m w h.1.len k.1.r k.1.i k.1.z k.1.g (q _ (by omega)) (q _ (by omega)) (q _ (by omega)) (q _ (by omega)) (q _ (by omega)) h.2 k.2.1 k.2.2.1 k.2.2.2.1 k.2.2.2.2).mono ?_
  obtain ⟨g1, g2, g3, g4, g5⟩ := stp_ok (d := d) (m := m) (by rw [CD.ok_iff.2 h.1, MD.ok_iff.2 k.1]; rfl)
  rw [g1, g2, g3, g4, g5]
  have o1 := CD.Ok.step h.1 m
  have o2 := MD.Ok.step h.1 k.1
  rintro e' w' ⟨B, B0, B1, B2, B3, e, e0, e1, e2, e3, rfl, O, hb⟩
  simp only [o1.len, o2.r, o2.i, o2.z, o2.g] at O ⊢
  exact ⟨B, B0, B1, B2, B3, e, e0, e1, e2, e3, rfl, Lib.hid ⟨⟨o1, (own_row o1.len O.out.1.1).reads⟩, o2, (own_row o2.r O.out.1.2.1).reads, (own_row o2.i O.out.1.2.2.1).reads, (own_row o2.z O.out.1.2.2.2.1).reads, (own_rowB o2.g O.out.1.2.2.2.2.1).reads⟩, hb⟩
set_option maxRecDepth 100000 in
theorem cpuSameS {w : World} {A : Option Addr} {d : CD} (c : Nat) (h : RepC w A d) : Calls Tryz.prog 14 #[.agg #[.int .i64 d.pc, .int .i64 d.sp, .int .i64 d.bank, .int .i64 d.level, .bool d.zero, .bool d.carry, .bool d.on, .bool d.halt, .slice A 16 c], .agg #[.int .i64 d.pc, .int .i64 d.sp, .int .i64 d.bank, .int .i64 d.level, .bool d.zero, .bool d.carry, .bool d.on, .bool d.halt, .slice A 16 c]] w fun e w' => e = .returned (.bool true) ∧ Below w.heap.size w w' := by
  have := implSameCpu A A 16 16 c c d.pc d.sp d.bank d.level d.zero d.carry d.on d.halt d.regs d.pc d.sp d.bank d.level d.zero d.carry d.on d.halt d.regs w h.1.len h.1.len (by unfold maxLen; omega) (by unfold maxLen; omega) h.2 h.2
  refine this.mono ?_
  rintro e w' ⟨rfl, hb⟩
  refine ⟨?_, hb⟩
  rw [show sameCp d.pc d.sp d.bank d.level d.zero d.carry d.on d.halt d.regs d.pc d.sp d.bank d.level d.zero d.carry d.on d.halt d.regs = true by unfold sameCp; simp]
set_option maxRecDepth 100000 in
set_option maxHeartbeats 4000000 in
theorem lawSameCpu {w : World} {A B : Option Addr} {d : CD} (c e : Nat) (h : RepC w A d) (k : RepC w B d) :
    Calls Tryz.prog 9 #[.agg #[.int .i64 d.pc, .int .i64 d.sp, .int .i64 d.bank, .int .i64 d.level, .bool d.zero, .bool d.carry, .bool d.on, .bool d.halt, .slice A 16 c], .agg #[.int .i64 d.pc, .int .i64 d.sp, .int .i64 d.bank, .int .i64 d.level, .bool d.zero, .bool d.carry, .bool d.on, .bool d.halt, .slice B 16 e]] w fun e w' => e = .returned (.bool true) ∧ Below w.heap.size w w' := by
  have m3 : (16 : Nat) ≤ maxLen := by unfold maxLen; omega
  obtain ⟨W0, hW0⟩ : ∃ W0, W0 = ((w.alloc (.cells #[.int .i64 d.pc, .int .i64 d.sp, .int .i64 d.bank, .int .i64 d.level, .bool d.zero, .bool d.carry, .bool d.on, .bool d.halt, .slice A 16 c] 25)).alloc (.cells #[.int .i64 d.pc, .int .i64 d.sp, .int .i64 d.bank, .int .i64 d.level, .bool d.zero, .bool d.carry, .bool d.on, .bool d.halt, .slice B 16 e] 25)) := ⟨_, rfl⟩
  have hb0 : Below w.heap.size w W0 := by rw [hW0]; exact bt (alloc_below _ _) (alloc_below _ _)
  have X0 : Hid (Box W0 w.heap.size 25 #[.int .i64 d.pc, .int .i64 d.sp, .int .i64 d.bank, .int .i64 d.level, .bool d.zero, .bool d.carry, .bool d.on, .bool d.halt, .slice A 16 c]) := Lib.hid (by rw [hW0]; exact (Box.new _ _ _).alloc _)
  have Y0 : Hid (Box W0 (w.heap.size + 1) 25 #[.int .i64 d.pc, .int .i64 d.sp, .int .i64 d.bank, .int .i64 d.level, .bool d.zero, .bool d.carry, .bool d.on, .bool d.halt, .slice B 16 e]) := Lib.hid (by rw [hW0]; simpa using Box.new (w.alloc (.cells #[.int .i64 d.pc, .int .i64 d.sp, .int .i64 d.bank, .int .i64 d.level, .bool d.zero, .bool d.carry, .bool d.on, .bool d.halt, .slice A 16 c] 25)) 25 #[.int .i64 d.pc, .int .i64 d.sp, .int .i64 d.bank, .int .i64 d.level, .bool d.zero, .bool d.carry, .bool d.on, .bool d.halt, .slice B 16 e])
  have H0 := Lib.hid (lawSameInts A B 16 16 c e d.regs W0 h.1.len h.1.len m3 (h.below hb0).2 (k.below hb0).2)
  have HW0 := Lib.hid hW0
  have i0 : (d.pc == d.pc) = true := by simp
  have i1 : (d.sp == d.sp) = true := by simp
  have i2 : (d.bank == d.bank) = true := by simp
  have i3 : (d.level == d.level) = true := by simp
  have x0 := X0.out.cell 0 rfl; have y0 := Y0.out.cell 0 rfl
  have x1 := X0.out.cell 1 rfl; have y1 := Y0.out.cell 1 rfl
  have x2 := X0.out.cell 2 rfl; have y2 := Y0.out.cell 2 rfl
  have x3 := X0.out.cell 3 rfl; have y3 := Y0.out.cell 3 rfl
  have x4 := X0.out.cell 4 rfl; have y4 := Y0.out.cell 4 rfl
  have x5 := X0.out.cell 5 rfl; have y5 := Y0.out.cell 5 rfl
  have x6 := X0.out.cell 6 rfl; have y6 := Y0.out.cell 6 rfl
  have x7 := X0.out.cell 7 rfl; have y7 := Y0.out.cell 7 rfl
  have x8 := X0.out.cell 8 rfl; have y8 := Y0.out.cell 8 rfl
  rw [HW0.out] at x0 y0 x1 y1 x2 y2 x3 y3 x4 y4 x5 y5 x6 y6 x7 y7 x8 y8
  clear m3 hW0 h k X0 Y0
  go_enter Tryz.func9, Tryz.ntmps9
  go_wp2_with fail
  rw [← HW0.out]
  refine H0.out.mono ?_
  rintro e' w1 ⟨rfl, hb1⟩
  clear x0 y0 x1 y1 x2 y2 x3 y3 x4 y4 x5 y5 x6 y6 x7 y7 x8 y8
  go_wp2
  go_ret
  exact ⟨rfl, bt hb0 hb1⟩
set_option maxRecDepth 100000 in
set_option maxHeartbeats 4000000 in
theorem lawSameMemR {W : World} {A0 A1 A2 A3 B0 B1 B2 B3 : Option Addr} {m : MD} (c0 c1 c2 c3 e0 e1 e2 e3 : Nat) (q : RepM W A0 A1 A2 A3 m) (p : RepM W B0 B1 B2 B3 m) :
    Calls Tryz.prog 10 #[.agg #[.slice A0 256 c0, .slice A1 32 c1, .slice A2 256 c2, .slice A3 16 c3, .int .i64 m.s], .agg #[.slice B0 256 e0, .slice B1 32 e1, .slice B2 256 e2, .slice B3 16 e3, .int .i64 m.s]] W fun e w' => e = .returned (.bool true) ∧ Below W.heap.size W w' := by
  have m1 : (256 : Nat) ≤ maxLen := by unfold maxLen; omega
  have m2 : (32 : Nat) ≤ maxLen := by unfold maxLen; omega
  have m3 : (16 : Nat) ≤ maxLen := by unfold maxLen; omega
  obtain ⟨W0, hW0⟩ : ∃ W0, W0 = ((W.alloc (.cells #[.slice A0 256 c0, .slice A1 32 c1, .slice A2 256 c2, .slice A3 16 c3, .int .i64 m.s] 31)).alloc (.cells #[.slice B0 256 e0, .slice B1 32 e1, .slice B2 256 e2, .slice B3 16 e3, .int .i64 m.s] 31)) := ⟨_, rfl⟩
  have hb0 : Below W.heap.size W W0 := by rw [hW0]; exact bt (alloc_below _ _) (alloc_below _ _)
  have X0 : Hid (Box W0 W.heap.size 31 #[.slice A0 256 c0, .slice A1 32 c1, .slice A2 256 c2, .slice A3 16 c3, .int .i64 m.s]) := Lib.hid (by rw [hW0]; exact (Box.new _ _ _).alloc _)
  have Y0 : Hid (Box W0 (W.heap.size + 1) 31 #[.slice B0 256 e0, .slice B1 32 e1, .slice B2 256 e2, .slice B3 16 e3, .int .i64 m.s]) := Lib.hid (by rw [hW0]; simpa using Box.new (W.alloc (.cells #[.slice A0 256 c0, .slice A1 32 c1, .slice A2 256 c2, .slice A3 16 c3, .int .i64 m.s] 31)) 31 #[.slice B0 256 e0, .slice B1 32 e1, .slice B2 256 e2, .slice B3 16 e3, .int .i64 m.s])
  have H0 := Lib.hid (fun V (hb : Below W.heap.size W V) => lawSameInts A0 B0 256 256 c0 e0 m.r V q.1.r q.1.r m1 (q.2.1.below hb) (p.2.1.below hb))
  have H1 := Lib.hid (fun V (hb : Below W.heap.size W V) => lawSameInts A1 B1 32 32 c1 e1 m.i V q.1.i q.1.i m2 (q.2.2.1.below hb) (p.2.2.1.below hb))
  have H2 := Lib.hid (fun V (hb : Below W.heap.size W V) => lawSameFlash A2 B2 A3 B3 256 256 16 16 c2 e2 c3 e3 m.s m.z m.g V q.1.z q.1.z q.1.g q.1.g m1 m3 (q.2.2.2.1.below hb) (p.2.2.2.1.below hb) (q.2.2.2.2.below hb) (p.2.2.2.2.below hb))
  have HW0 := Lib.hid hW0
  have x0 := X0.out.cell 0 rfl
  have y0 := Y0.out.cell 0 rfl
  rw [HW0.out] at x0 y0
  clear m1 m2 m3 hW0 q p
  go_enter Tryz.func10, Tryz.ntmps10
  go_wp2_with fail
  rw [← HW0.out]
  refine (H0.out _ hb0).mono ?_
  rintro e w1 ⟨rfl, hb1⟩
  have q1 := bt hb0 hb1
  have X1 := X0.out.step hb1
  have Y1 := Y0.out.step hb1
  have x1 := X1.cell 1 rfl
  have y1 := Y1.cell 1 rfl
  have HX1 := Lib.hid (And.intro X1 Y1)
  clear x0 y0 X1 Y1
  go_wp2_with fail
  refine (H1.out _ q1).mono ?_
  rintro e w2 ⟨rfl, hb2⟩
  have q2 := bt q1 hb2
  have X2 := HX1.out.1.step hb2
  have Y2 := HX1.out.2.step hb2
  have x2 := X2.cell 2 rfl
  have x3 := X2.cell 3 rfl
  have x4 := X2.cell 4 rfl
  have y2 := Y2.cell 2 rfl
  have y3 := Y2.cell 3 rfl
  have y4 := Y2.cell 4 rfl
  clear x1 y1 X2 Y2 HX1
  go_wp2_with fail
  refine (H2.out _ q2).mono ?_
  rintro e w3 ⟨rfl, hb3⟩
  go_wp2
  go_ret
  exact ⟨rfl, bt q2 hb3⟩
end Go.Proofs.YtcchhbkbnbphhaaGreatDoor
