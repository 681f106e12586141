/- A range over a function that turns cells of its own between two rounds: a law for one whose body never leaves. -/
import Derived.RangeFuncNested
import Derived.RangeFuncBound
import Derived.RangeFuncCalls
import Derived.RangeFuncLeaves
import Derived.Shelf.Abstract
import Derived.Shelf.RegionOpen
import Derived.OwnWalkIn
import Derived.TacticsInMore
import Derived.LoopNIn
import Derived.LoopIn
import Derived.Test.YtagdclbpgkilgaaOwn
namespace Go.Proofs.Ytagdclbpgkilgaa
open Go.RowKit Go.Shelf

/-- B is A grown; the blocks of A that p does not name lie as they lay. -/
structure But (p : Nat → Prop) (A B : World) : Prop where
  os : B.os = A.os
  tape : B.tape = A.tape
  output : B.output = A.output
  size : A.heap.size ≤ B.heap.size
  block : ∀ k, k < A.heap.size → ¬ p k → B.heap[k]? = A.heap[k]?
theorem But.refl (p : Nat → Prop) (A : World) : But p A A := ⟨rfl, rfl, rfl, Nat.le_refl _, fun _ _ _ => rfl⟩
theorem But.trans {p : Nat → Prop} {A B C : World} (h : But p A B) (k : But p B C) : But p A C :=
  ⟨k.os.trans h.os, k.tape.trans h.tape, k.output.trans h.output, Nat.le_trans h.size k.size, fun i hi hp => (k.block i (Nat.lt_of_lt_of_le hi h.size) hp).trans (h.block i hi hp)⟩
theorem But.wide {p q : Nat → Prop} {A B : World} (h : But p A B) (hpq : ∀ k, k < A.heap.size → p k → q k) : But q A B := ⟨h.os, h.tape, h.output, h.size, fun k hk hq => h.block k hk (fun hp => hq (hpq k hk hp))⟩
theorem But.of_below {A B : World} (h : Below A.heap.size A B) (p : Nat → Prop) : But p A B := ⟨h.os, h.tape, h.output, h.size, fun k hk _ => h.block k hk⟩
theorem But.alloc (p : Nat → Prop) (A : World) (o : Obj) : But p A (A.alloc o) := But.of_below ((Below.refl _ _).alloc (Nat.le_refl _) o) p
theorem But.setCell {p : Nat → Prop} (A : World) {a : Addr} (h : p a.block) (v : Value) : But p A (A.setCell a v) :=
  ⟨rfl, rfl, rfl, by show A.heap.size ≤ (A.heap.modify _ _).size; rw [Array.size_modify]; exact Nat.le_refl _, fun k _ hp => Below.heap_setCell A a v k (fun e => hp (by rw [e]; exact h))⟩
theorem But.putObj {p : Nat → Prop} (A : World) {l : Nat} (h : p l) (o : Obj) : But p A (A.putObj l o) :=
  ⟨rfl, rfl, rfl, by simp, fun k _ hp => World.putObj_heap_other (fun e => hp (by rw [e]; exact h))⟩
theorem But.below {p : Nat → Prop} {A B : World} {n : Nat} (h : But p A B) (hn : n ≤ A.heap.size) (hp : ∀ k, k < n → ¬ p k) : Below n A B := ⟨h.os, h.tape, h.output, h.size, fun k hk => h.block k (by omega) (hp k hk)⟩
theorem But.box {p : Nat → Prop} {A B : World} {b : Nat} {t : TypeId} {cs : Array Value} (h : But p A B) (hb : Box A b t cs) (hp : ¬ p b) : Box B b t cs := by
  unfold Box at hb ⊢
  exact (h.block b (Array.getElem?_eq_some_iff.1 hb).1 hp).trans hb

/-- What an iterator of a fixed row of rounds promises: it turns block Bk and what it lays; each round may turn block Bo and the loop's record. -/
def IterSt {α : Type} (F : Fence) (n : Nat) (P : Program) (g : Nat) (lb : Array Value) (encs : α → Array Value) (Bk Bo n₀ : Nat) (xs : List α) (R : World → Prop) (W : World) : Prop :=
  ∀ (l : Nat) (J : List α → World → Prop), n₀ ≤ l → l < W.heap.size → (∀ pre A B, J pre A → But (fun k => k = Bk ∨ W.heap.size ≤ k) A B → J pre B) →
    (∀ pre x rest W1, xs = pre ++ x :: rest → J pre W1 → YieldAt F (n - 1) P l (encs x) W1 fun e W' => e = .returned (.bool true) ∧ J (pre ++ [x]) W' ∧ But (fun k => k = Bo ∨ k = l) W1 W') →
    J [] W → CallsIn F n P g (#[.func (.yield l) #[] #[]] ++ lb) W fun e W' => (∃ v, e = .returned v) ∧ J xs W' ∧ R W'

/-- How a round's body is left: off its end. -/
def bodyEnd (Bo : Nat) (I : World → Prop) (W : World) : Exit → Act → World → Prop
  | .normal, _, W' => But (fun k => k = Bo) W W' ∧ I W'
  | _, _, _ => False

theorem rangeFunc_st {α : Type} {F : Fence} {n : Nat} {P : Program} {g : Operand} {ps : Array Tmp} {assign body : Code} {Q : Exit → Act → World → Prop} {a : Act} {w : World}
    (hro : F.round = none) (h1 : 1 ≤ n) {gf : Nat} {lb : Array Value} (hg : a.eval g = .func (.func gf) #[] lb) (hFg : F.fn gf) (eg : ∀ args w, (callFunc gf args).run P w = .ok (.enter gf args) w)
    {encs : α → Array Value} (hps : ∀ x, (encs x).size = ps.size) {Bk Bo : Nat} (hBk : Bk < w.heap.size) (hBo : Bo < w.heap.size) {xs : List α} {R : World → Prop}
    (hiter : ∀ W, Below w.heap.size w W → IterSt F (n - 1) P gf lb encs Bk Bo w.heap.size xs R W) (hR : ∀ A B, R A → But (fun k => w.heap.size ≤ k) A B → R B)
    (I : List α → World → Prop) (hI : ∀ pre A B, I pre A → But (fun k => k = Bk ∨ w.heap.size ≤ k) A B → I pre B) (h0 : I [] w) (a₁ : α → Act)
    (hassign : ∀ (l : Nat) (x : α) (W : World) (K : Act → World → Prop), K (a₁ x) W → assign.wpIn (F.inRound l) (n - 1 - 1) P (Exit.then K (fun _ _ _ => False)) { tmps := (ps.zip (encs x)).foldl (fun t (p, v) => t.setIfInBounds p v) a.tmps, defers := [] } W)
    (hbody : ∀ (l : Nat) (pre : List α) (x : α) (rest : List α) (W : World), xs = pre ++ x :: rest → w.heap.size ≤ W.heap.size → I pre W → body.wpIn (F.inRound l) (n - 1 - 1) P (bodyEnd Bo (I (pre ++ [x])) W) (a₁ x) W)
    (hdone : ∀ (D : Nat) (W : World), w.heap.size ≤ D → I xs W → R W → W.heap[D]? = some (.deferred (some [])) → Q .normal { a with defers := { target := .collected D, args := #[] } :: a.defers } W) :
    (Code.rangeFunc g ps assign body).wpIn F n P Q a w := by
  refine wpIn_rangeFunc fun fn hfn => ?_
  rw [hro]
  -- the loop's record in its three states, at block D + 1; the block for deferred calls at D
  let rec0 (st : LoopState) : Loop := { state := st, pending := none, fn, tmps := a.tmps, params := ps, assign, body, defers := w.heap.size }
  let A0 := w.alloc (.deferred (some []))
  let A1 := A0.alloc (.loop (rec0 .ready))
  have sA0 : A0.heap.size = w.heap.size + 1 := World.size_alloc _ _
  have sA1 : A1.heap.size = w.heap.size + 2 := by rw [show A1.heap.size = A0.heap.size + 1 from World.size_alloc _ _, sA0]
  have bA0 : Below w.heap.size w A0 := (Below.refl _ _).alloc (Nat.le_refl _) _
  have bA : Below w.heap.size w A1 := bA0.alloc (by omega) _
  have gD : A1.heap[w.heap.size]? = some (.deferred (some [])) := (Below.heap_alloc A0 _ _ (by omega)).trans (World.alloc_heap_new w _)
  have gL : A1.heap[w.heap.size + 1]? = some (.loop (rec0 .ready)) := by rw [← sA0]; exact World.alloc_heap_new A0 _
  refine ⟨w.heap.size + 1, _, A1, { target := .fn (.func gf) lb, args := #[.func (.yield (w.heap.size + 1)) #[] #[]] }, A1, gf, #[.func (.yield (w.heap.size + 1)) #[] #[]] ++ lb, A1, run_enterLoop_outer _ _ _ _ _, ?_, fun f' e => ?_, ?_, fun _ => h1, ?_⟩
  · simp only [resolve, hg]
    simp [go_sem]
  · simp only [Target.leads, Option.some.injEq] at e; rw [← e]; exact hFg
  · simp [invoke, go_sem, eg]
  let J : List α → World → Prop := fun pre W => I pre W ∧ w.heap.size + 2 ≤ W.heap.size ∧ W.heap[w.heap.size + 1]? = some (.loop (rec0 .ready)) ∧ W.heap[w.heap.size]? = some (.deferred (some []))
  have hJ : ∀ pre A B, J pre A → But (fun k => k = Bk ∨ A1.heap.size ≤ k) A B → J pre B := fun pre A B j b => by
    obtain ⟨j1, j2, j3, j4⟩ := j
    refine ⟨hI pre A B j1 (b.wide fun k _ q => ?_), Nat.le_trans j2 b.size, (b.block _ (by omega) (by omega)).trans j3, (b.block _ (by omega) (by omega)).trans j4⟩
    rcases q with q | q
    · exact .inl q
    · exact .inr (by omega)
  have hput : ∀ pre A (o : Obj), I pre A → I pre (A.putObj (w.heap.size + 1) o) := fun pre A o i => hI pre A _ i (But.putObj A (.inr (by omega)) o)
  refine (hiter A1 bA (w.heap.size + 1) J (by omega) (by omega) hJ (fun pre x rest W1 ex j => ?_) ⟨hI [] w A1 h0 (But.of_below bA _), by omega, gL, gD⟩).mono ?_
  · -- a round
    obtain ⟨j1, j2, j3, j4⟩ := j
    have ry := run_yield (P := P) (args := encs x) j3 (hps x)
    refine ⟨fn, _, assign, body, ry, roundIn_of_wpIn hfn (hassign _ x W1 _ ⟨_, run_beginRound j3 rfl, ?_⟩)⟩
    have kL : (W1.putObj (w.heap.size + 1) (.loop (rec0 .busy))).heap[w.heap.size + 1]? = some (.loop (rec0 .busy)) := World.putObj_heap_same (by omega)
    have kD : (W1.putObj (w.heap.size + 1) (.loop (rec0 .busy))).heap[w.heap.size]? = some (.deferred (some [])) := (World.putObj_heap_other (by omega)).trans j4
    refine wpIn_mono (hbody (w.heap.size + 1) pre x rest _ ex (by simp; omega) (hput pre W1 _ j1)) fun e a3 W3 q => ?_
    match e, q with
    | .normal, ⟨q1, q2⟩ =>
      have q4 : w.heap.size + 2 ≤ W3.heap.size := Nat.le_trans (by simp; omega) q1.size
      have q3 : W3.heap[w.heap.size + 1]? = some (.loop (rec0 .busy)) := (q1.block _ (by simp; omega) (by omega)).trans kL
      have q5 : W3.heap[w.heap.size]? = some (.deferred (some [])) := (q1.block _ (by simp; omega) (by omega)).trans kD
      refine ⟨_, _, run_endRound none q3, rfl, ⟨hput _ W3 _ q2, by simp; omega, World.putObj_heap_same (by omega), (World.putObj_heap_other (by omega)).trans q5⟩, ?_⟩
      exact ((But.putObj W1 (p := fun k => k = Bo ∨ k = w.heap.size + 1) (.inr rfl) _).trans (q1.wide fun k _ q => .inl q)).trans (But.putObj W3 (.inr rfl) _)
  · -- behind the loop
    rintro e W2 ⟨⟨v, rfl⟩, ⟨j1, j2, j3, j4⟩, r⟩
    exact ⟨none, _, run_endLoop (P := P) j3 (by simp [rec0]), hdone _ _ (Nat.le_refl _) (hput xs W2 _ j1) (hR W2 _ r (But.putObj W2 (by omega) _)) ((World.putObj_heap_other (by omega)).trans j4)⟩
end Go.Proofs.Ytagdclbpgkilgaa
