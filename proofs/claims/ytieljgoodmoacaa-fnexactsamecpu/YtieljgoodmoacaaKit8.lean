/- Rows that a store into a smaller box leaves alone; regions that hand back two structs. -/
import Derived.Test.YtieljgoodmoacaaRegFacts
import Derived.Test.YtieljgoodmoacaaCpuMath
import Derived.Test.YtieljgoodmoacaaFlash
import Derived.Test.YtieljgoodmoacaaFlashBits
import Derived.Laws.Tables
namespace Go.Proofs.Ytieljgoodmoacaa
open Go.RowKit

theorem IntL.offBtw {w w' : World} {A : Option Addr} {zs : List Int} {b : Nat} {t : TypeId} {cs : Array Value} (h : IntL w A zs) (X : Box w b t cs) (hl : cs.size < zs.length) (hb : Btw b (b + 1) w w') : IntL w' A zs := fun i hi => by
  obtain ⟨b1, off, e, hc⟩ := h i hi
  obtain ⟨b2, off2, e2, hc2⟩ := h cs.size hl
  have e3 := e.symm.trans e2
  injection e3 with e3
  injection e3 with e4 e5 _
  subst e4 e5
  refine ⟨b1, off, e, hb.cell hc ?_⟩
  show b1 < b ∨ b + 1 ≤ b1
  rcases Nat.lt_trichotomy b1 b with q | q | q
  · exact .inl q
  · exfalso
    subst q
    rw [cell_of_row _ _ _ _ _ _ X, Array.getElem?_eq_none (by omega)] at hc2
    cases hc2
  · exact .inr q
theorem BoolL.offBtw {w w' : World} {A : Option Addr} {zs : List Bool} {b : Nat} {t : TypeId} {cs : Array Value} (h : BoolL w A zs) (X : Box w b t cs) (hl : cs.size < zs.length) (hb : Btw b (b + 1) w w') : BoolL w' A zs := fun i hi => by
  obtain ⟨b1, off, e, hc⟩ := h i hi
  obtain ⟨b2, off2, e2, hc2⟩ := h cs.size hl
  have e3 := e.symm.trans e2
  injection e3 with e3
  injection e3 with e4 e5 _
  subst e4 e5
  refine ⟨b1, off, e, hb.cell hc ?_⟩
  show b1 < b ∨ b + 1 ≤ b1
  rcases Nat.lt_trichotomy b1 b with q | q | q
  · exact .inl q
  · exfalso
    subst q
    rw [cell_of_row _ _ _ _ _ _ X, Array.getElem?_eq_none (by omega)] at hc2
    cases hc2
  · exact .inr q
/-- Two boxes beside each other were written. -/
theorem IntL.offBtw2 {w w' : World} {A : Option Addr} {zs : List Int} {b : Nat} {t t' : TypeId} {cs cs' : Array Value} (h : IntL w A zs) (X : Box w b t cs) (Y : Box w (b + 1) t' cs') (hl : cs.size < zs.length) (hl' : cs'.size < zs.length) (hb : Btw b (b + 1 + 1) w w') : IntL w' A zs := fun i hi => by
  obtain ⟨b1, off, e, hc⟩ := h i hi
  refine ⟨b1, off, e, hb.cell hc ?_⟩
  show b1 < b ∨ b + 1 + 1 ≤ b1
  by_cases q1 : b1 = b
  · exfalso
    subst q1
    obtain ⟨b2, off2, e2, hc2⟩ := h cs.size hl
    have e3 := e.symm.trans e2
    injection e3 with e3
    injection e3 with e4 e5 _
    subst e4 e5
    rw [cell_of_row _ _ _ _ _ _ X, Array.getElem?_eq_none (by omega)] at hc2
    cases hc2
  · by_cases q2 : b1 = b + 1
    · exfalso
      subst q2
      obtain ⟨b2, off2, e2, hc2⟩ := h cs'.size hl'
      have e3 := e.symm.trans e2
      injection e3 with e3
      injection e3 with e4 e5 _
      subst e4 e5
      rw [cell_of_row _ _ _ _ _ _ Y, Array.getElem?_eq_none (by omega)] at hc2
      cases hc2
    · omega
theorem BoolL.offBtw2 {w w' : World} {A : Option Addr} {zs : List Bool} {b : Nat} {t t' : TypeId} {cs cs' : Array Value} (h : BoolL w A zs) (X : Box w b t cs) (Y : Box w (b + 1) t' cs') (hl : cs.size < zs.length) (hl' : cs'.size < zs.length) (hb : Btw b (b + 1 + 1) w w') : BoolL w' A zs := fun i hi => by
  obtain ⟨b1, off, e, hc⟩ := h i hi
  refine ⟨b1, off, e, hb.cell hc ?_⟩
  show b1 < b ∨ b + 1 + 1 ≤ b1
  by_cases q1 : b1 = b
  · exfalso
    subst q1
    obtain ⟨b2, off2, e2, hc2⟩ := h cs.size hl
    have e3 := e.symm.trans e2
    injection e3 with e3
    injection e3 with e4 e5 _
    subst e4 e5
    rw [cell_of_row _ _ _ _ _ _ X, Array.getElem?_eq_none (by omega)] at hc2
    cases hc2
  · by_cases q2 : b1 = b + 1
    · exfalso
      subst q2
      obtain ⟨b2, off2, e2, hc2⟩ := h cs'.size hl'
      have e3 := e.symm.trans e2
      injection e3 with e3
      injection e3 with e4 e5 _
      subst e4 e5
      rw [cell_of_row _ _ _ _ _ _ Y, Array.getElem?_eq_none (by omega)] at hc2
      cases hc2
    · omega
/-- A processor's registers read so; a memory reads so. -/
def RepC (w : World) (A : Option Addr) (d : CD) : Prop := d.Ok ∧ IntL w A d.regs
def RepM (w : World) (A0 A1 A2 A3 : Option Addr) (m : MD) : Prop := m.Ok ∧ IntL w A0 m.r ∧ IntL w A1 m.i ∧ IntL w A2 m.z ∧ BoolL w A3 m.g
theorem RepC.below {w w' : World} {A : Option Addr} {d : CD} (h : RepC w A d) (k : Below w.heap.size w w') : RepC w' A d := ⟨h.1, h.2.below k⟩
theorem RepM.below {w w' : World} {A0 A1 A2 A3 : Option Addr} {m : MD} (h : RepM w A0 A1 A2 A3 m) (k : Below w.heap.size w w') : RepM w' A0 A1 A2 A3 m := ⟨h.1, h.2.1.below k, h.2.2.1.below k, h.2.2.2.1.below k, h.2.2.2.2.below k⟩
theorem RepC.off {w w' : World} {A : Option Addr} {d : CD} (h : RepC w A d) {b : Nat} {t : TypeId} {cs : Array Value} (X : Box w b t cs) (hl : cs.size < 16) (hb : Btw b (b + 1) w w') : RepC w' A d := ⟨h.1, h.2.offBtw X (by rw [h.1.len]; exact hl) hb⟩
theorem RepM.off {w w' : World} {A0 A1 A2 A3 : Option Addr} {m : MD} (h : RepM w A0 A1 A2 A3 m) {b : Nat} {t : TypeId} {cs : Array Value} (X : Box w b t cs) (hl : cs.size < 16) (hb : Btw b (b + 1) w w') : RepM w' A0 A1 A2 A3 m :=
  ⟨h.1, h.2.1.offBtw X (by rw [h.1.r]; omega) hb, h.2.2.1.offBtw X (by rw [h.1.i]; omega) hb, h.2.2.2.1.offBtw X (by rw [h.1.z]; omega) hb, h.2.2.2.2.offBtw X (by rw [h.1.g]; omega) hb⟩
theorem RepC.off2 {w w' : World} {A : Option Addr} {d : CD} (h : RepC w A d) {b : Nat} {t t' : TypeId} {cs cs' : Array Value} (X : Box w b t cs) (Y : Box w (b + 1) t' cs') (hl : cs.size < 16) (hl' : cs'.size < 16) (hb : Btw b (b + 1 + 1) w w') : RepC w' A d := ⟨h.1, h.2.offBtw2 X Y (by rw [h.1.len]; exact hl) (by rw [h.1.len]; exact hl') hb⟩
theorem RepM.off2 {w w' : World} {A0 A1 A2 A3 : Option Addr} {m : MD} (h : RepM w A0 A1 A2 A3 m) {b : Nat} {t t' : TypeId} {cs cs' : Array Value} (X : Box w b t cs) (Y : Box w (b + 1) t' cs') (hl : cs.size < 16) (hl' : cs'.size < 16) (hb : Btw b (b + 1 + 1) w w') : RepM w' A0 A1 A2 A3 m :=
  ⟨h.1, h.2.1.offBtw2 X Y (by rw [h.1.r]; omega) (by rw [h.1.r]; omega) hb, h.2.2.1.offBtw2 X Y (by rw [h.1.i]; omega) (by rw [h.1.i]; omega) hb, h.2.2.2.1.offBtw2 X Y (by rw [h.1.z]; omega) (by rw [h.1.z]; omega) hb, h.2.2.2.2.offBtw2 X Y (by rw [h.1.g]; omega) (by rw [h.1.g]; omega) hb⟩
theorem Btw.lowSize {lo hi : Nat} {a b : World} (h : Btw lo hi a b) {w : World} (k : Below w.heap.size w a) (hl : lo ≤ a.heap.size) (hw : w.heap.size ≤ lo) : Below w.heap.size w b := k.trans ((h.below hl).mono hw)
theorem Box.setRow {w : World} {b : Nat} {t : TypeId} {cs : Array Value} (X : Box w b t cs) (cs' : Array Value) : Box (w.setRow b cs') b t cs' := by
  unfold Box at X ⊢
  simp [World.setRow, Array.getElem?_modify, X]
theorem btw_setRow {lo hi : Nat} {a w : World} (h : Btw lo hi a w) {b : Nat} (h1 : lo ≤ b) (h2 : b < hi) (cs : Array Value) : Btw lo hi a (w.setRow b cs) :=
  h.trans ⟨rfl, rfl, rfl, by simp [World.setRow], fun k _ ho => setRow_other w b k cs (by omega)⟩
theorem Box.farRow {w : World} {b b' : Nat} {t : TypeId} {cs : Array Value} (X : Box w b t cs) (hb : b ≠ b') (cs' : Array Value) : Box (w.setRow b' cs') b t cs := (setRow_other w b' b cs' hb).trans X

/-- What stays in a region that hands two structs back. -/
structure RetC (W0 : World) (bx by' bc bd : Nat) (t1 t2 : TypeId) (cs1 cs2 : Array Value) (W : World) : Prop where
  k : Btw bc (bd + 1) W0 W
  c : ∃ o : Array Value, o.size = cs1.size ∧ Box W bc t1 o
  d : ∃ o : Array Value, o.size = cs2.size ∧ Box W bd t2 o
  x : Box W bx t1 cs1
  y : Box W by' t2 cs2
  q : bx < bc ∧ by' < bc ∧ bc < bd
def RetF (s1 s2 bc bd : Nat) (t1 t2 : TypeId) (cs1 cs2 : Array Value) (iL1 iL2 iS1 iS2 : Nat) (G : Nat → (Nat → Value) → Prop) (k : Nat) (t : Nat → Value) (W : World) : Prop :=
  if k = iL1 then t s1 = .agg cs1 else if k = iL2 then t s2 = .agg cs2 else if k = iS1 then Box W bc t1 cs1 else if k = iS2 then Box W bd t2 cs2 else G k t
section
variable {P : Program} {Q : Exit → Act → World → Prop} {sup bef : List (List Nat)} {base : List Nat} {a : Act} {W0 : World} {bx by' bc bd s1 s2 : Nat} {t1 t2 : TypeId} {cs1 cs2 : Array Value} {iL1 iL2 iS1 iS2 : Nat} {G : Nat → (Nat → Value) → Prop}
theorem mask_put (l : List Nat) (s : Nat) (h : l.contains s = true) (T : Array Value) (a : Act) (v : Value) (hs : s < T.size) : mask l (Act.put { a with tmps := T } (some s) v).tmps s = v := by
  unfold mask
  rw [if_pos h]
  simp only [Act.put, Array.getD_eq_getD_getElem?]
  rw [Array.getElem?_setIfInBounds, if_pos rfl, if_pos hs]
  rfl
theorem ret_load1 {i : Nat} {o : Oper} (hi0 : i = iL1) (x : Nat) (ho : o.op = .load t1 (.tmp x)) (hd : o.dst = some s1) (hx : x ∈ base) (hp : a.tmps.getD x undef = .pointer (some ⟨bx, 0, none⟩)) (d : TypeDesc) (hu : P.underlying t1 = some d)
    (hdd : (match d with | .struct _ | .array _ _ => true | _ => false) = true) (hi : (P.info? t1).map (·.size) = some cs1.size) (hs : (sup.getD i []).contains s1 = true) (hlt : s1 < a.tmps.size) :
    StepF P Q sup bef base a (RetC W0 bx by' bc bd t1 t2 cs1 cs2) (RetF s1 s2 bc bd t1 t2 cs1 cs2 iL1 iL2 iS1 iS2 G) i o := by
  intro T W hT hb hc hf K hK
  refine wp_load_row t1 (.tmp x) ho bx ?_ t1 cs1 (0, 0) d hc.x hu hdd hi ?_
  · show T.getD x undef = _
    rw [hb x hx, hp]
  · refine hK.out _ W hc (fun _ _ _ h => h) ?_
    unfold RetF
    rw [if_pos hi0, hd]
    exact mask_put _ _ hs _ _ _ (by rw [hT]; exact hlt)
theorem ret_load2 {i : Nat} {o : Oper} (hi0 : i = iL2) (hi1 : i ≠ iL1) (x : Nat) (ho : o.op = .load t2 (.tmp x)) (hd : o.dst = some s2) (hx : x ∈ base) (hp : a.tmps.getD x undef = .pointer (some ⟨by', 0, none⟩)) (d : TypeDesc) (hu : P.underlying t2 = some d)
    (hdd : (match d with | .struct _ | .array _ _ => true | _ => false) = true) (hi : (P.info? t2).map (·.size) = some cs2.size) (hs : (sup.getD i []).contains s2 = true) (hlt : s2 < a.tmps.size) :
    StepF P Q sup bef base a (RetC W0 bx by' bc bd t1 t2 cs1 cs2) (RetF s1 s2 bc bd t1 t2 cs1 cs2 iL1 iL2 iS1 iS2 G) i o := by
  intro T W hT hb hc hf K hK
  refine wp_load_row t2 (.tmp x) ho by' ?_ t2 cs2 (0, 0) d hc.y hu hdd hi ?_
  · show T.getD x undef = _
    rw [hb x hx, hp]
  · refine hK.out _ W hc (fun _ _ _ h => h) ?_
    unfold RetF
    rw [if_neg hi1, if_pos hi0, hd]
    exact mask_put _ _ hs _ _ _ (by rw [hT]; exact hlt)
theorem mask_get {l : List Nat} {T : Array Value} {s : Nat} {v : Value} (hl : l.contains s = true) (h : mask l T s = v) : T.getD s undef = v := by
  unfold mask at h
  rwa [if_pos hl] at h
theorem ret_store1 {i : Nat} {o : Oper} (hi0 : i = iS1) (hi1 : i ≠ iL1) (hi2 : i ≠ iL2) (x : Nat) (ho : o.op = .store t1 (.tmp x) (.tmp s1)) (hx : x ∈ base) (hp : a.tmps.getD x undef = .pointer (some ⟨bc, 0, none⟩))
    (hb1 : iL1 ∈ bef.getD i []) (hs : (sup.getD iL1 []).contains s1 = true) (hi : (P.info? t1).map (·.size) = some cs1.size) (h1 : cs1.all (·.oneCell') = true) :
    StepF P Q sup bef base a (RetC W0 bx by' bc bd t1 t2 cs1 cs2) (RetF s1 s2 bc bd t1 t2 cs1 cs2 iL1 iL2 iS1 iS2 G) i o := by
  intro T W hT hb hc hf K hK
  obtain ⟨old, hos, hox⟩ := hc.c
  have hf1 := hf iL1 hb1
  unfold RetF at hf1
  rw [if_pos rfl] at hf1
  refine wp_store_row t1 (.tmp x) (.tmp s1) ho bc cs1 ?_ ?_ t1 old hox hi hos h1 ?_
  · show T.getD x undef = _
    rw [hb x hx, hp]
  · exact mask_get hs hf1
  · obtain ⟨q1, q2, q3⟩ := hc.q
    refine hK.out _ _ ⟨btw_setRow hc.k (Nat.le_refl _) (by omega) _, ⟨_, rfl, hox.setRow _⟩, ?_, hc.x.farRow (by omega) _, hc.y.farRow (by omega) _, hc.q⟩ (fun j t hj h => ?_) ?_
    · obtain ⟨o2, ho2, hx2⟩ := hc.d
      exact ⟨o2, ho2, hx2.farRow (by omega) _⟩
    · unfold RetF at h ⊢
      by_cases j1 : j = iL1
      · rw [if_pos j1] at h ⊢; exact h
      · rw [if_neg j1] at h ⊢
        by_cases j2 : j = iL2
        · rw [if_pos j2] at h ⊢; exact h
        · rw [if_neg j2] at h ⊢
          rw [if_neg (by omega)] at h ⊢
          by_cases j4 : j = iS2
          · rw [if_pos j4] at h ⊢; exact h.farRow (by omega) _
          · rw [if_neg j4] at h ⊢; exact h
    · unfold RetF
      rw [if_neg hi1, if_neg hi2, if_pos hi0]
      exact hox.setRow _
theorem ret_store2 {i : Nat} {o : Oper} (hi0 : i = iS2) (hi1 : i ≠ iL1) (hi2 : i ≠ iL2) (hi3 : i ≠ iS1) (hn : iL2 ≠ iL1) (x : Nat) (ho : o.op = .store t2 (.tmp x) (.tmp s2)) (hx : x ∈ base) (hp : a.tmps.getD x undef = .pointer (some ⟨bd, 0, none⟩))
    (hb1 : iL2 ∈ bef.getD i []) (hs : (sup.getD iL2 []).contains s2 = true) (hi : (P.info? t2).map (·.size) = some cs2.size) (h1 : cs2.all (·.oneCell') = true) :
    StepF P Q sup bef base a (RetC W0 bx by' bc bd t1 t2 cs1 cs2) (RetF s1 s2 bc bd t1 t2 cs1 cs2 iL1 iL2 iS1 iS2 G) i o := by
  intro T W hT hb hc hf K hK
  obtain ⟨old, hos, hox⟩ := hc.d
  have hf1 := hf iL2 hb1
  unfold RetF at hf1
  rw [if_neg hn, if_pos rfl] at hf1
  refine wp_store_row t2 (.tmp x) (.tmp s2) ho bd cs2 ?_ ?_ t2 old hox hi hos h1 ?_
  · show T.getD x undef = _
    rw [hb x hx, hp]
  · exact mask_get hs hf1
  · obtain ⟨q1, q2, q3⟩ := hc.q
    refine hK.out _ _ ⟨btw_setRow hc.k (by omega) (by omega) _, ?_, ⟨_, rfl, hox.setRow _⟩, hc.x.farRow (by omega) _, hc.y.farRow (by omega) _, hc.q⟩ (fun j t hj h => ?_) ?_
    · obtain ⟨o2, ho2, hx2⟩ := hc.c
      exact ⟨o2, ho2, hx2.farRow (by omega) _⟩
    · unfold RetF at h ⊢
      by_cases j1 : j = iL1
      · rw [if_pos j1] at h ⊢; exact h
      · rw [if_neg j1] at h ⊢
        by_cases j2 : j = iL2
        · rw [if_pos j2] at h ⊢; exact h
        · rw [if_neg j2] at h ⊢
          by_cases j3 : j = iS1
          · rw [if_pos j3] at h ⊢; exact h.farRow (by omega) _
          · rw [if_neg j3] at h ⊢
            rw [if_neg (by omega)] at h ⊢; exact h
    · unfold RetF
      rw [if_neg hi1, if_neg hi2, if_neg hi3, if_pos hi0]
      exact hox.setRow _
/-- A slot is filled out of another, or out of a constant. -/
theorem ret_assign {i : Nat} {o : Oper} (h1 : i ≠ iL1) (h2 : i ≠ iL2) (h3 : i ≠ iS1) (h4 : i ≠ iS2) (s : Nat) (hd : o.dst = some s) (x : Operand) (ho : o.op = .assign x ∨ o.op = .move x) (v : Value)
    (hv : ∀ T : Array Value, (∀ k ∈ base, T.getD k undef = a.tmps.getD k undef) → (∀ j ∈ bef.getD i [], G j (mask (sup.getD j []) T) ∨ (j = iL1 ∨ j = iL2 ∨ j = iS1 ∨ j = iS2)) → ({ a with tmps := T } : Act).eval x = v)
    (hs : (sup.getD i []).contains s = true) (hlt : s < a.tmps.size) (hG : ∀ t : Nat → Value, t s = v → G i t) :
    StepF P Q sup bef base a (RetC W0 bx by' bc bd t1 t2 cs1 cs2) (RetF s1 s2 bc bd t1 t2 cs1 cs2 iL1 iL2 iS1 iS2 G) i o := by
  intro T W hT hb hc hf K hK
  have hv' := hv T hb (fun j hj => by
    have hfj := hf j hj
    unfold RetF at hfj
    by_cases j1 : j = iL1
    · exact .inr (.inl j1)
    rw [if_neg j1] at hfj
    by_cases j2 : j = iL2
    · exact .inr (.inr (.inl j2))
    rw [if_neg j2] at hfj
    by_cases j3 : j = iS1
    · exact .inr (.inr (.inr (.inl j3)))
    rw [if_neg j3] at hfj
    by_cases j4 : j = iS2
    · exact .inr (.inr (.inr (.inr j4)))
    rw [if_neg j4] at hfj
    exact .inl hfj)
  have key : K (Act.put { a with tmps := T } o.dst v) W := by
    refine hK.out _ W hc (fun _ _ _ h => h) ?_
    unfold RetF
    rw [if_neg h1, if_neg h2, if_neg h3, if_neg h4, hd]
    exact hG _ (mask_put _ _ hs _ _ _ (by rw [hT]; exact hlt))
  rcases ho with ho | ho
  · unfold Oper.wp execOp
    simp only [ho, hv']
    exact key
  · unfold Oper.wp execOp
    simp only [ho, hv']
    exact key
end
theorem and_any (n : Int) (k : Nat) (hk : k ≤ 62) : bits .and .i64 n (((2 ^ k - 1 : Nat) : Int)) = n % (2 ^ k : Nat) := by
  have hlt : 2 ^ k ≤ 2 ^ 62 := Nat.pow_le_pow_right (by omega) hk
  have h15 : (BitVec.ofInt 64 (((2 ^ k - 1 : Nat) : Int))).toNat = 2 ^ k - 1 := by
    rw [BitVec.toNat_ofInt]
    have : 2 ^ k ≥ 1 := Nat.one_le_two_pow
    omega
  have key : (BitVec.ofInt 64 n &&& BitVec.ofInt 64 (((2 ^ k - 1 : Nat) : Int))).toNat = (n % ((2 ^ 64 : Nat) : Int)).toNat % 2 ^ k := by
    rw [BitVec.toNat_and, BitVec.toNat_ofInt, h15, Nat.and_two_pow_sub_one_eq_mod]
  show IntKind.i64.wrap ((BitVec.ofInt 64 n &&& BitVec.ofInt 64 (((2 ^ k - 1 : Nat) : Int))).toNat : Nat) = n % (2 ^ k : Nat)
  rw [key, IntKind.wrap_i64]
  have hd : (2 ^ 64 : Nat) = 2 ^ k * 2 ^ (64 - k) := by rw [← Nat.pow_add]; congr 1; omega
  have hp : 0 < (2 : Nat) ^ k := Nat.two_pow_pos k
  have h1 : (((n % ((2 ^ 64 : Nat) : Int)).toNat % 2 ^ k : Nat) : Int) = n % ((2 ^ k : Nat) : Int) := by
    rw [Int.natCast_emod, Int.toNat_of_nonneg (Int.emod_nonneg _ (by decide))]
    exact Int.emod_emod_of_dvd n ⟨((2 ^ (64 - k) : Nat) : Int), by rw [hd]; push_cast; rfl⟩
  rw [h1]
  have h2 : 0 ≤ n % ((2 ^ k : Nat) : Int) := Int.emod_nonneg _ (by omega)
  have h3 : n % ((2 ^ k : Nat) : Int) < ((2 ^ k : Nat) : Int) := Int.emod_lt_of_pos _ (by omega)
  omega
theorem and_255 (n : Int) : bits .and .i64 n 255 = n % 256 := and_any n 8 (by omega)
theorem and_4095 (n : Int) : bits .and .i64 n 4095 = n % 4096 := and_any n 12 (by omega)
theorem and_7 (n : Int) : bits .and .i64 n 7 = n % 8 := and_any n 3 (by omega)
theorem setL9 (l : List Value) (hs : l.length = 9) (u0 u1 u2 u3 u4 u5 u6 u7 u8 : Value) : (((((((((l.set 0 u0).set 1 u1).set 2 u2).set 3 u3).set 4 u4).set 5 u5).set 6 u6).set 7 u7).set 8 u8) = [u0, u1, u2, u3, u4, u5, u6, u7, u8] := by
  match l, hs with
  | [v0, v1, v2, v3, v4, v5, v6, v7, v8], _ => simp only [List.set_cons_zero, List.set_cons_succ]
theorem setA9 (cs : Array Value) (hs : cs.size = 9) (u0 u1 u2 u3 u4 u5 u6 u7 u8 : Value) : (((((((((cs.setIfInBounds 0 u0).setIfInBounds 1 u1).setIfInBounds 2 u2).setIfInBounds 3 u3).setIfInBounds 4 u4).setIfInBounds 5 u5).setIfInBounds 6 u6).setIfInBounds 7 u7).setIfInBounds 8 u8) = #[u0, u1, u2, u3, u4, u5, u6, u7, u8] := by
  obtain ⟨l⟩ := cs
  simp only [List.setIfInBounds_toArray]
  rw [setL9 l hs]
theorem Box.allN9 {w : World} {b : Nat} {t : TypeId} {cs : Array Value} (X : Box w b t cs) (hs : cs.size = 9) (u0 u1 u2 u3 u4 u5 u6 u7 u8 : Value) : Box (((((((((w.setCell ⟨b, 0, none⟩ u0).setCell ⟨b, 1, none⟩ u1).setCell ⟨b, 2, none⟩ u2).setCell ⟨b, 3, none⟩ u3).setCell ⟨b, 4, none⟩ u4).setCell ⟨b, 5, none⟩ u5).setCell ⟨b, 6, none⟩ u6).setCell ⟨b, 7, none⟩ u7).setCell ⟨b, 8, none⟩ u8) b t #[u0, u1, u2, u3, u4, u5, u6, u7, u8] :=
  setA9 cs hs u0 u1 u2 u3 u4 u5 u6 u7 u8 ▸ (((((((((X.set 0 u0).set 1 u1).set 2 u2).set 3 u3).set 4 u4).set 5 u5).set 6 u6).set 7 u7).set 8 u8)
theorem setL5 (l : List Value) (hs : l.length = 5) (u0 u1 u2 u3 u4 : Value) : (((((l.set 0 u0).set 1 u1).set 2 u2).set 3 u3).set 4 u4) = [u0, u1, u2, u3, u4] := by
  match l, hs with
  | [v0, v1, v2, v3, v4], _ => simp only [List.set_cons_zero, List.set_cons_succ]
theorem setA5 (cs : Array Value) (hs : cs.size = 5) (u0 u1 u2 u3 u4 : Value) : (((((cs.setIfInBounds 0 u0).setIfInBounds 1 u1).setIfInBounds 2 u2).setIfInBounds 3 u3).setIfInBounds 4 u4) = #[u0, u1, u2, u3, u4] := by
  obtain ⟨l⟩ := cs
  simp only [List.setIfInBounds_toArray]
  rw [setL5 l hs]
theorem Box.allN5 {w : World} {b : Nat} {t : TypeId} {cs : Array Value} (X : Box w b t cs) (hs : cs.size = 5) (u0 u1 u2 u3 u4 : Value) : Box (((((w.setCell ⟨b, 0, none⟩ u0).setCell ⟨b, 1, none⟩ u1).setCell ⟨b, 2, none⟩ u2).setCell ⟨b, 3, none⟩ u3).setCell ⟨b, 4, none⟩ u4) b t #[u0, u1, u2, u3, u4] :=
  setA5 cs hs u0 u1 u2 u3 u4 ▸ (((((X.set 0 u0).set 1 u1).set 2 u2).set 3 u3).set 4 u4)
/-- Two structs out of the result's cells. -/
theorem results_cc {P : Program} {fn : Func} {tmps : Array Value} {w : World} {x y b1 b2 : Nat} {t1 t2 : TypeId} {cs1 cs2 : Array Value} {d1 d2 : TypeDesc} (h : fn.results = #[.cell x t1, .cell y t2])
    (hx : tmps.getD x undef = .pointer (some ⟨b1, 0, none⟩)) (hy : tmps.getD y undef = .pointer (some ⟨b2, 0, none⟩)) (X : Box w b1 t1 cs1) (Y : Box w b2 t2 cs2)
    (hu1 : P.underlying t1 = some d1) (hd1 : (match d1 with | .struct _ | .array _ _ => true | _ => false) = true) (hi1 : (P.info? t1).map (·.size) = some cs1.size)
    (hu2 : P.underlying t2 = some d2) (hd2 : (match d2 with | .struct _ | .array _ _ => true | _ => false) = true) (hi2 : (P.info? t2).map (·.size) = some cs2.size) :
    (results fn tmps).run P w = .ok (.tuple #[.agg cs1, .agg cs2]) w := by
  unfold results
  rw [h]
  simp only [List.mapM_toArray, List.mapM_cons, List.mapM_nil, hx, hy]
  simp [asAddr, run_loadVar_row w b1 t1 t1 cs1 (0, 0) d1 X hu1 hd1 hi1, run_loadVar_row w b2 t2 t2 cs2 (0, 0) d2 Y hu2 hd2 hi2]
end Go.Proofs.Ytieljgoodmoacaa
