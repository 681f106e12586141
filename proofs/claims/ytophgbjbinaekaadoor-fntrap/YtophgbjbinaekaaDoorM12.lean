/- Texts of this claim, one behind the other: SubCalls. -/
import Derived.Test.YtophgbjbinaekaaDoorSubMath
import Derived.Test.YtophgbjbinaekaaDoorStpI
import Derived.Test.YtophgbjbinaekaaDoorM11
/- What FnSub and FnTrap call, on data: a new processor, a new memory, a step, a register, a cell of a memory of one's own. -/
namespace Go.Proofs.YtophgbjbinaekaaDoor
open Go.RowKit

theorem own_row {w : World} {lo hi : Nat} {A : Option Addr} {n c : Nat} {zs : List Int} (_hl : zs.length = n) (h : OwnL w lo hi (.slice A n c) (.I zs)) : OwnI w lo hi A zs := by
  obtain ⟨B, d, e, o⟩ := h
  injection e with e1 e2 e3; subst e1; exact o
theorem own_rowB {w : World} {lo hi : Nat} {A : Option Addr} {n c : Nat} {gs : List Bool} (_hl : gs.length = n) (h : OwnL w lo hi (.slice A n c) (.B gs)) : OwnB w lo hi A gs := by
  obtain ⟨B, d, e, o⟩ := h
  injection e with e1 e2 e3; subst e1; exact o
def OwnC (w : World) (lo hi : Nat) (A : Option Addr) (c : Nat) (d : CD) : Prop := d.Ok ∧ OwnA w lo hi [.slice A 16 c] [.I d.regs]
def OwnM (w : World) (lo hi : Nat) (A0 A1 A2 A3 : Option Addr) (c0 c1 c2 c3 : Nat) (m : MD) : Prop := m.Ok ∧ OwnA w lo hi [.slice A0 256 c0, .slice A1 32 c1, .slice A2 256 c2, .slice A3 16 c3] [.I m.r, .I m.i, .I m.z, .B m.g]
theorem OwnC.rep {w : World} {lo hi : Nat} {A : Option Addr} {c : Nat} {d : CD} (h : OwnC w lo hi A c d) : RepC w A d := ⟨h.1, (own_row h.1.len h.2.1.1).reads⟩
theorem OwnM.rep {w : World} {lo hi : Nat} {A0 A1 A2 A3 : Option Addr} {c0 c1 c2 c3 : Nat} {m : MD} (h : OwnM w lo hi A0 A1 A2 A3 c0 c1 c2 c3 m) : RepM w A0 A1 A2 A3 m :=
  ⟨h.1, (own_row h.1.r h.2.1.1).reads, (own_row h.1.i h.2.1.2.1).reads, (own_row h.1.z h.2.1.2.2.1).reads, (own_rowB h.1.g h.2.1.2.2.2.1).reads⟩
theorem OwnM.put {w : World} {lo hi : Nat} {A0 A1 A2 A3 : Option Addr} {c0 c1 c2 c3 : Nat} {m : MD} (h : OwnM w lo hi A0 A1 A2 A3 c0 c1 c2 c3 m) (k : Nat) (hk : k < 256) :
    ∃ b, A2 = some ⟨b, 0, none⟩ ∧ (∃ v, w.cell? ⟨b, k, none⟩ = some (.int .i64 v)) ∧ w.frozen? ⟨b, k, none⟩ = false ∧ lo ≤ b ∧ b < hi ∧
      ∀ x : Int, 0 ≤ x ∧ x ≤ 255 → OwnM (w.setCell ⟨b, k, none⟩ (.int .i64 x)) lo hi A0 A1 A2 A3 c0 c1 c2 c3 { m with z := m.z.set k x } := by
  obtain ⟨hok, O⟩ := h
  have O2 := own_row hok.z O.1.2.2.1
  obtain ⟨b, mm, f, rfl, hc, hf, h1, h2, hr, hput⟩ := O2.put k (by rw [hok.z]; exact hk)
  refine ⟨b, rfl, ⟨_, hc⟩, hf, h1, h2, fun x hx => ⟨⟨hok.r, hok.i, by rw [List.length_set]; exact hok.z, hok.g, hok.s, hok.rb, hok.ib, set_byte hok.zb k hx⟩, ?_⟩⟩
  refine OwnA.reseg (a := [.slice A0 256 c0, .slice A1 32 c1]) (m := [.slice (some ⟨b, 0, none⟩) 256 c2]) (b := [.slice A3 16 c3]) (da := [.I m.r, .I m.i]) (dm := [.I m.z]) (dm' := [.I (m.z.set k x)]) (db := [.B m.g]) O rfl rfl (OwnA.one (d := .I (m.z.set k x)) (show ∃ A c, Value.slice (some ⟨b, 0, none⟩) 256 c2 = .slice A (m.z.set k x).length c ∧ OwnI _ lo hi A (m.z.set k x) from ⟨_, c2, by rw [List.length_set, hok.z], hput x⟩)) ?_
  have hs : ((w.setCell ⟨b, k, none⟩ (.int .i64 x))).heap.size = w.heap.size := by simp [World.setCell]
  exact ⟨rfl, rfl, rfl, Nat.le_of_eq hs.symm, fun j _ hm => Below.heap_setCell w ⟨b, k, none⟩ _ j (fun e => hm (by subst e; simp [blkL]))⟩

theorem OwnM.spot {w : World} {lo hi b : Nat} {A0 A1 A3 : Option Addr} {c0 c1 c2 c3 : Nat} {m : MD} (h : OwnM w lo hi A0 A1 (some ⟨b, 0, none⟩) A3 c0 c1 c2 c3 m) (k : Nat) (hk : k < 256) : (∃ v, w.cell? ⟨b, k, none⟩ = some (.int .i64 v)) ∧ w.frozen? ⟨b, k, none⟩ = false := by
  obtain ⟨b', e, hc, hz, -⟩ := h.put k hk
  injection e with e
  injection e with e _ _
  subst e
  exact ⟨hc, hz⟩

set_option maxRecDepth 100000 in
theorem newCpuS (w : World) : Calls Tryd.prog 5 #[] w fun e w' => ∃ A c, e = .returned (.agg #[.int .i64 newCD.pc, .int .i64 newCD.sp, .int .i64 newCD.bank, .int .i64 newCD.level, .bool newCD.zero, .bool newCD.carry, .bool newCD.on, .bool newCD.halt, .slice A 16 c]) ∧ Hid (OwnC w' w.heap.size w'.heap.size A c newCD) ∧ Below w.heap.size w w' := by
  refine (implNewCpuA w).mono ?_
  rintro e w' ⟨A, c, rfl, O, hb⟩
  exact ⟨A, c, rfl, Lib.hid ⟨newCD_ok, O.out⟩, hb⟩
set_option maxRecDepth 100000 in
theorem newMemS (p : List Int) (A : Option Addr) (n c : Nat) (w : World) (hl : p.length = n) (hn : n ≤ 256) (hb : ∀ z ∈ p, 0 ≤ z ∧ z ≤ 255) (h : IntL w A p) :
    Calls Tryd.prog 7 #[.slice A n c] w fun e w' => ∃ A0 A1 A2 A3 c0 c1 c2 c3, e = .returned (.tuple #[.agg #[.slice A0 256 c0, .slice A1 32 c1, .slice A2 256 c2, .slice A3 16 c3, .int .i64 0], .int .i64 0]) ∧ Hid (OwnM w' w.heap.size w'.heap.size A0 A1 A2 A3 c0 c1 c2 c3 (newMD p)) ∧ Below w.heap.size w w' := by
  refine (implNewMem A n c p w hl (by unfold maxLen; omega) h).mono ?_
  rw [newF_ok hb (by omega)]
  rintro e w' ⟨A0, A1, A2, A3, c0, c1, c2, c3, rfl, O, hb'⟩
  have k := newMD_ok hb
  have e1 : zR.length = 256 := k.r
  have e2 : zI.length = 32 := k.i
  have e3 : (progZ p p.length).length = 256 := k.z
  have e4 : zG.length = 16 := k.g
  simp only [e1, e2, e3, e4] at O ⊢
  exact ⟨A0, A1, A2, A3, c0, c1, c2, c3, rfl, Lib.hid ⟨k, O.out⟩, hb'⟩
def StpO (d : CD) (m : MD) (w : World) (e' : Ending) (w' : World) : Prop :=
  ∃ B B0 B1 B2 B3 e e0 e1 e2 e3, e' = .returned (.tuple #[.agg #[.int .i64 (stepD d m).pc, .int .i64 (stepD d m).sp, .int .i64 (stepD d m).bank, .int .i64 (stepD d m).level, .bool (stepD d m).zero, .bool (stepD d m).carry, .bool (stepD d m).on, .bool (stepD d m).halt, .slice B 16 e], .agg #[.slice B0 256 e0, .slice B1 32 e1, .slice B2 256 e2, .slice B3 16 e3, .int .i64 (stepM d m).s], .int .i64 (stepN d m), .int .i64 (stepS d m), .int .i64 0]) ∧ Hid (RepC w' B (stepD d m) ∧ RepM w' B0 B1 B2 B3 (stepM d m)) ∧ Below w.heap.size w w'
set_option maxRecDepth 100000 in
theorem stepO {w : World} {A A0 A1 A2 A3 : Option Addr} {d : CD} {m : MD} (c c0 c1 c2 c3 : Nat) (h : RepC w A d) (k : RepM w A0 A1 A2 A3 m) (ht : OpsT w) :
    Calls Tryd.prog 9 #[.agg #[.int .i64 d.pc, .int .i64 d.sp, .int .i64 d.bank, .int .i64 d.level, .bool d.zero, .bool d.carry, .bool d.on, .bool d.halt, .slice A 16 c], .agg #[.slice A0 256 c0, .slice A1 32 c1, .slice A2 256 c2, .slice A3 16 c3, .int .i64 m.s]] w (StpO d m w) := by
  have q : ∀ n : Nat, n ≤ 256 → n ≤ maxLen := fun n hn => by unfold maxLen; omega
  refine (implStepCpu A 16 c d A0 A1 A2 A3 256 32 256 16 c0 c1 c2 c3 m w h.1.len k.1.r k.1.i k.1.z k.1.g (q _ (by omega)) (q _ (by omega)) (q _ (by omega)) (q _ (by omega)) (q _ (by omega)) h.2 k.2.1 k.2.2.1 k.2.2.2.1 k.2.2.2.2 ht).mono ?_
  obtain ⟨g1, g2, g3, g4, g5⟩ := stp_ok (d := d) (m := m) (by rw [CD.ok_iff.2 h.1, MD.ok_iff.2 k.1]; rfl)
  rw [g1, g2, g3, g4, g5]
  have o1 := CD.Ok.step h.1 m
  have o2 := MD.Ok.step h.1 k.1
  rintro e' w' ⟨B, B0, B1, B2, B3, e, e0, e1, e2, e3, rfl, O, hb⟩
  simp only [o1.len, o2.r, o2.i, o2.z, o2.g] at O ⊢
  exact ⟨B, B0, B1, B2, B3, e, e0, e1, e2, e3, rfl, Lib.hid ⟨⟨o1, (own_row o1.len O.out.1.1).reads⟩, o2, (own_row o2.r O.out.1.2.1).reads, (own_row o2.i O.out.1.2.2.1).reads, (own_row o2.z O.out.1.2.2.2.1).reads, (own_rowB o2.g O.out.1.2.2.2.2.1).reads⟩, hb⟩
end Go.Proofs.YtophgbjbinaekaaDoor
