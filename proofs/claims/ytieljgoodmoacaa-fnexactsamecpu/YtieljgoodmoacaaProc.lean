/- The processor that executes: a box with the fields, the bus and the swi; what its methods leave. -/
import Derived.Test.YtieljgoodmoacaaBusTop
import Derived.Test.YtieljgoodmoacaaKit8
namespace Go.Proofs.Ytieljgoodmoacaa
open Go.RowKit

/-- Where the parts of a processor lie. -/
structure PA where
  L : Nat
  R : Nat
  p : Nat
  g : Nat
  b0 : Nat
  b1 : Nat
  b2 : Nat
  b3 : Nat
  A : Option Addr
  A0 : Option Addr
  A1 : Option Addr
  c : Nat
  c0 : Nat
  c1 : Nat
def procC (a : PA) (d : CD) (s : Int) : Array Value := #[.int .i64 d.pc, .int .i64 d.sp, .int .i64 d.bank, .int .i64 d.level, .bool d.zero, .bool d.carry, .bool d.on, .bool d.halt, .slice a.A 16 a.c, .pointer (some ⟨a.b0, 0, none⟩), .pointer (some ⟨a.b1, 0, none⟩), .pointer (some ⟨a.b2, 0, none⟩), .pointer (some ⟨a.b3, 0, none⟩), .int .i64 s]
structure PrAt (w : World) (a : PA) (d : CD) (m : MD) (s : Int) : Prop where
  X : Box w a.p 78 (procC a d s)
  G : OwnI w a.L a.R a.A d.regs
  B : BusAt w a.R a.g a.b0 a.b1 a.b2 a.b3 a.A0 a.A1 a.c0 a.c1 m.r m.i m.z m.g m.s
  q : a.L ≤ a.R ∧ a.L ≤ a.p
theorem PrAt.step {w w' : World} {a : PA} {d : CD} {m : MD} {s : Int} (h : PrAt w a d m s) (k : Below w.heap.size w w') : PrAt w' a d m s := ⟨h.X.step k, h.G.below k, h.B.step k, h.q⟩
theorem PrAt.size {w : World} {a : PA} {d : CD} {m : MD} {s : Int} (h : PrAt w a d m s) : a.L ≤ w.heap.size := by
  have := h.X.lt
  have := h.q.2
  omega
theorem PrAt.cells {w : World} {a : PA} {d : CD} {m : MD} {s : Int} (h : PrAt w a d m s) :
    (w.cell? ⟨a.p, 0, none⟩ = some (.int .i64 d.pc) ∧ w.cell? ⟨a.p, 1, none⟩ = some (.int .i64 d.sp) ∧ w.cell? ⟨a.p, 2, none⟩ = some (.int .i64 d.bank) ∧ w.cell? ⟨a.p, 3, none⟩ = some (.int .i64 d.level) ∧ w.cell? ⟨a.p, 4, none⟩ = some (.bool d.zero) ∧ w.cell? ⟨a.p, 5, none⟩ = some (.bool d.carry) ∧ w.cell? ⟨a.p, 6, none⟩ = some (.bool d.on) ∧ w.cell? ⟨a.p, 7, none⟩ = some (.bool d.halt) ∧ w.cell? ⟨a.p, 8, none⟩ = some (.slice a.A 16 a.c)) ∧
    (w.cell? ⟨a.p, 9, none⟩ = some (.pointer (some ⟨a.b0, 0, none⟩)) ∧ w.cell? ⟨a.p, 10, none⟩ = some (.pointer (some ⟨a.b1, 0, none⟩)) ∧ w.cell? ⟨a.p, 11, none⟩ = some (.pointer (some ⟨a.b2, 0, none⟩)) ∧ w.cell? ⟨a.p, 12, none⟩ = some (.pointer (some ⟨a.b3, 0, none⟩)) ∧ w.cell? ⟨a.p, 13, none⟩ = some (.int .i64 s)) ∧ ∀ i, w.frozen? ⟨a.p, i, none⟩ = false :=
  ⟨⟨h.X.cell 0 rfl, h.X.cell 1 rfl, h.X.cell 2 rfl, h.X.cell 3 rfl, h.X.cell 4 rfl, h.X.cell 5 rfl, h.X.cell 6 rfl, h.X.cell 7 rfl, h.X.cell 8 rfl⟩, ⟨h.X.cell 9 rfl, h.X.cell 10 rfl, h.X.cell 11 rfl, h.X.cell 12 rfl, h.X.cell 13 rfl⟩, h.X.frozen⟩
theorem BusAt.setFar {w : World} {lo g b0 b1 b2 b3 : Nat} {A0 A1 : Option Addr} {c0 c1 : Nat} {ram io zs : List Int} {gs : List Bool} {st : Int} (B : BusAt w lo g b0 b1 b2 b3 A0 A1 c0 c1 ram io zs gs st) {b : Nat} {t : TypeId} {cs : Array Value} (X : Box w b t cs) (ht : t ≠ 3) (h0 : t ≠ 92) (h1 : t ≠ 93) (h2 : t ≠ 99) (h3 : t ≠ 107) (i : Nat) (u : Value) : BusAt (w.setCell ⟨b, i, none⟩ u) lo g b0 b1 b2 b3 A0 A1 c0 c1 ram io zs gs st :=
  ⟨B.r.far (p := ⟨b, i, none⟩) (B.r.box_ne X (Ne.symm h0)) u, B.i.far (p := ⟨b, i, none⟩) (B.i.box_ne X (Ne.symm h1)) u, B.f.far (p := ⟨b, i, none⟩) (B.f.box_ne X (Ne.symm h2)) u, B.o.far (p := ⟨b, i, none⟩) (B.o.box_ne X (Ne.symm h3)) u, B.R.farB X ht i u, (B.I.farB X ht i u).wideB (Nat.le_refl _) (by simp [World.setCell]), by simpa [World.setCell] using B.l⟩
/-- A field of the processor is written. -/
theorem PrAt.put {w : World} {a : PA} {d : CD} {m : MD} {s : Int} (h : PrAt w a d m s) (i : Nat) (u : Value) (d' : CD) (s' : Int) (hc : (procC a d s).setIfInBounds i u = procC a d' s') (hr : d'.regs = d.regs) : PrAt (w.setCell ⟨a.p, i, none⟩ u) a d' m s' :=
  ⟨hc ▸ h.X.set i u, hr ▸ h.G.farB h.X (by decide) i u, h.B.setFar h.X (by decide) (by decide) (by decide) (by decide) (by decide) i u, h.q⟩
/-- What a method may leave: the processor with other data; other boxes as they were. -/
def KeepsBox (w w' : World) : Prop := ∀ b t cs, t ≠ 3 → t ≠ 99 → t ≠ 78 → Box w b t cs → Box w' b t cs
theorem KeepsBox.refl (w : World) : KeepsBox w w := fun _ _ _ _ _ _ h => h
theorem KeepsBox.trans {a b c : World} (h : KeepsBox a b) (k : KeepsBox b c) : KeepsBox a c := fun x t cs h1 h2 h3 X => k x t cs h1 h2 h3 (h x t cs h1 h2 h3 X)
theorem KeepsBox.below {w w' : World} (k : Below w.heap.size w w') : KeepsBox w w' := fun _ _ _ _ _ _ X => X.step k
theorem KeepsBox.set {w : World} {b : Nat} {cs : Array Value} (X : Box w b 78 cs) (i : Nat) (u : Value) : KeepsBox w (w.setCell ⟨b, i, none⟩ u) := fun _ _ _ _ _ h3 Y => Y.far (p := ⟨b, i, none⟩) (Y.box_ne X h3) u
theorem KeepsBox.row {w : World} {b m : Nat} {f : Nat → Value} (X : w.rowIs b 3 m f) (i : Nat) (u : Value) : KeepsBox w (w.setCell ⟨b, i, none⟩ u) := fun _ _ _ h1 _ _ Y => Y.other X h1 i u
/-- From a world to a later one that the processor's methods leave. -/
structure Runs (L : Nat) (w w' : World) : Prop where
  kb : KeepsBox w w'
  bl : Below L w w'
theorem Runs.trans {L : Nat} {a b c : World} (h : Runs L a b) (k : Runs L b c) : Runs L a c := ⟨h.kb.trans k.kb, h.bl.trans k.bl⟩
theorem Runs.below {L : Nat} {w w' : World} (k : Below w.heap.size w w') (hl : L ≤ w.heap.size) : Runs L w w' := ⟨KeepsBox.below k, k.mono hl⟩
theorem PrAt.runs {w : World} {a : PA} {d : CD} {m : MD} {s : Int} (h : PrAt w a d m s) {L : Nat} (hl : L ≤ a.L) (i : Nat) (u : Value) : Runs L w (w.setCell ⟨a.p, i, none⟩ u) := ⟨KeepsBox.set h.X i u, (Below.refl _ _).setCell (p := ⟨a.p, i, none⟩) (Nat.le_trans hl h.q.2) u⟩
def GPr (a : PA) (d : CD) (m : MD) (s : Int) (w : World) (e : Ending) (w' : World) : Prop := e = .returned (.tuple #[]) ∧ Hid (PrAt w' a d m s) ∧ Hid (Runs a.L w w')
def GPrI (v : Int) (a : PA) (d : CD) (m : MD) (s : Int) (w : World) (e : Ending) (w' : World) : Prop := e = .returned (.int .i64 v) ∧ Hid (PrAt w' a d m s) ∧ Hid (Runs a.L w w')
end Go.Proofs.Ytieljgoodmoacaa
