/- A controller's value: eight levels and eight booleans, one cell each; controllerOf and controller.irq. Written by gen_ctl.py. -/
import Derived.Test.YtamfapmkdojhcaaIrqOk
import Derived.Test.YtamfapmkdojhcaaCloneI
import Derived.Test.YtamfapmkdojhcaaRegFacts
import Derived.Deep.MidRow
namespace Go.Proofs.Ytamfapmkdojhcaa
open Go.RowKit

def ctlC (ls : List Int) (ps : List Bool) : List Value := cellsI ls ++ cellsB ps
theorem ctlC_len (ls : List Int) (ps : List Bool) : (ctlC ls ps).length = ls.length + ps.length := by simp [ctlC, cellsI, cellsB]
theorem ctlC_level {ls : List Int} {ps : List Bool} (k : Nat) (hk : k < ls.length) : (ctlC ls ps)[k]? = some (.int .i64 (ls.getD k 0)) := by
  unfold ctlC cellsI
  rw [List.getElem?_append_left (by simpa using hk), List.getElem?_map, List.getD_eq_getElem?_getD, List.getElem?_eq_getElem hk]
  rfl
theorem ctlC_pend {ls : List Int} {ps : List Bool} (hz : ls.length = 8) (k : Nat) (hk : k < ps.length) : (ctlC ls ps)[8 + k]? = some (.bool (ps.getD k false)) := by
  unfold ctlC cellsI cellsB
  rw [List.getElem?_append_right (by simp [hz]), List.length_map, hz, Nat.add_sub_cancel_left, List.getElem?_map, List.getD_eq_getElem?_getD, List.getElem?_eq_getElem hk]
  rfl
theorem ctlC_setL {ls : List Int} {ps : List Bool} (k : Nat) (x : Int) (hk : k < ls.length) : (ctlC ls ps).set k (.int .i64 x) = ctlC (ls.set k x) ps := by
  unfold ctlC cellsI
  rw [List.set_append_left _ _ (by simpa using hk), List.map_set]
theorem ctlC_setP {ls : List Int} {ps : List Bool} (hz : ls.length = 8) (k : Nat) (x : Bool) : (ctlC ls ps).set (8 + k) (.bool x) = ctlC ls (ps.set k x) := by
  unfold ctlC cellsI cellsB
  rw [List.set_append_right _ _ (by simp [hz]), List.length_map, hz, Nat.add_sub_cancel_left, List.map_set]
theorem cellsI_one8 (zs : List Int) : ∀ v ∈ cellsI zs, v.oneCell' = true := fun v hv => by unfold cellsI at hv; obtain ⟨q, _, rfl⟩ := List.mem_map.1 hv; rfl
theorem ctlC_one (ls : List Int) (ps : List Bool) : ∀ v ∈ ctlC ls ps, v.oneCell' = true := by
  intro v hv
  unfold ctlC cellsI cellsB at hv
  simp only [List.mem_append, List.mem_map] at hv
  rcases hv with ⟨z, _, rfl⟩ | ⟨z, _, rfl⟩ <;> rfl
set_option maxRecDepth 100000 in
theorem sizeCtl : (Try.prog.info? 52).map (·.size) = some 16 := by kernel_rfl
set_option maxRecDepth 100000 in
theorem size8I : (Try.prog.info? 49).map (·.size) = some 8 := by kernel_rfl
set_option maxRecDepth 100000 in
theorem size8B : (Try.prog.info? 50).map (·.size) = some 8 := by kernel_rfl
theorem box_range {w : World} {b : Nat} {t : TypeId} {cs : List Value} (h : Box w b t cs.toArray) : w.rangeAt b 0 cs := fun j v hv => by
  rw [Nat.zero_add]; exact Box.cell h j (by simpa using hv)
theorem box_there {w : World} {b : Nat} {t : TypeId} {cs : Array Value} (h : Box w b t cs) : w.there b 0 cs.size := fun j hj => by
  rw [Nat.zero_add]
  exact ⟨by rw [Box.cell h j (Array.getElem?_eq_getElem hj)]; rfl, Box.frozen h j⟩
theorem box_put {w : World} {b : Nat} {t : TypeId} {cs : Array Value} (h : Box w b t cs) (vs : List Value) (hl : vs.length = cs.size) : Box (w.setCells b 0 vs) b t vs.toArray :=
  setCells_list vs [] cs.toList (by simpa using h) (by simpa using hl.symm)
theorem box_levels {w : World} {b : Nat} {t : TypeId} {ls : List Int} {ps : List Bool} (h : Box w b t (ctlC ls ps).toArray) : IntL w (some ⟨b, 0, none⟩) ls := fun k hk =>
  ⟨b, 0, rfl, by rw [Nat.zero_add]; exact Box.cell h k (by simpa using ctlC_level k hk)⟩
theorem box_pends {w : World} {b : Nat} {t : TypeId} {ls : List Int} {ps : List Bool} (h : Box w b t (ctlC ls ps).toArray) (hz : ls.length = 8) : BoolL w (some ⟨b, 8, none⟩) ps := fun k hk =>
  ⟨b, 8, rfl, Box.cell h (8 + k) (by simpa using ctlC_pend hz k hk)⟩
theorem IntL.range {w : World} {A : Option Addr} {zs : List Int} (h : IntL w A zs) (hn : 0 < zs.length) : ∃ b o, A = some ⟨b, o, none⟩ ∧ w.rangeAt b o (cellsI zs) := by
  obtain ⟨b, o, e, _⟩ := h 0 hn
  refine ⟨b, o, e, fun j v hv => ?_⟩
  have hj : j < zs.length := by have := (List.getElem?_eq_some_iff.1 hv).1; rwa [cellsI_len] at this
  obtain ⟨b', o', e', hc⟩ := h j hj
  rw [e] at e'
  injection e' with e'
  injection e' with q1 q2
  subst q1 q2
  rw [hc, ← hv]
  unfold cellsI
  rw [List.getElem?_map, List.getD_eq_getElem?_getD, List.getElem?_eq_getElem hj]
  rfl
theorem BoolL.range {w : World} {A : Option Addr} {gs : List Bool} (h : BoolL w A gs) (hn : 0 < gs.length) : ∃ b o, A = some ⟨b, o, none⟩ ∧ w.rangeAt b o (cellsB gs) := by
  obtain ⟨b, o, e, _⟩ := h 0 hn
  refine ⟨b, o, e, fun j v hv => ?_⟩
  have hj : j < gs.length := by have := (List.getElem?_eq_some_iff.1 hv).1; rwa [cellsB_len] at this
  obtain ⟨b', o', e', hc⟩ := h j hj
  rw [e] at e'
  injection e' with e'
  injection e' with q1 q2
  subst q1 q2
  rw [hc, ← hv]
  unfold cellsB
  rw [List.getElem?_map, List.getD_eq_getElem?_getD, List.getElem?_eq_getElem hj]
  rfl
theorem below_setCellsN {B b : Nat} {a : World} (hB : B ≤ b) : ∀ (vs : List Value) (o : Nat) (w : World), Below B a w → Below B a (w.setCells b o vs)
  | [], _, _, h => h
  | v :: vs, o, _, h => below_setCellsN hB vs (o + 1) _ (h.setCell hB v)
theorem eight {α : Type} (l : List α) (h : l.length = 8) : ∃ a0 a1 a2 a3 a4 a5 a6 a7 : α, l = [a0, a1, a2, a3, a4, a5, a6, a7] := by
  match l, h with
  | [a0, a1, a2, a3, a4, a5, a6, a7], _ => exact ⟨a0, a1, a2, a3, a4, a5, a6, a7, rfl⟩
def zL : List Int := List.replicate 8 0
def zP : List Bool := List.replicate 8 false
set_option maxRecDepth 100000 in
theorem infoCt : (Try.prog.info? 52).map (fun i => (i.zero, i.size)) = some (some (.agg (ctlC zL zP).toArray), 16) := by kernel_rfl
set_option maxRecDepth 100000 in
theorem infoCtx : ∃ i : TypeInfo, Try.prog.info? 52 = some i ∧ i.zero = some (.agg (ctlC zL zP).toArray) := by
  obtain ⟨i, hi, hzz⟩ := Option.map_eq_some_iff.1 infoCt
  simp only [Prod.mk.injEq] at hzz
  exact ⟨i, hi, hzz.1⟩
set_option maxRecDepth 100000 in
theorem buildCtl (ls : List Int) (ps : List Bool) (hl : ls.length = 8) (hp : ps.length = 8) (w : World) : (Instr.build 52 #[(0, .agg (cellsI ls).toArray), (1, .agg (cellsB ps).toArray)]).run Try.prog w = .ok (.agg (ctlC ls ps).toArray) w := by
  obtain ⟨a0, a1, a2, a3, a4, a5, a6, a7, rfl⟩ := eight ls hl
  obtain ⟨b0, b1, b2, b3, b4, b5, b6, b7, rfl⟩ := eight ps hp
  obtain ⟨i, hi, hz⟩ := infoCtx
  have hzv : (zeroValue 52).run Try.prog w = .ok (.agg (ctlC zL zP).toArray) w := by simp [zeroValue, typeInfo, hi, hz]
  obtain ⟨j, hj, hs⟩ := Option.map_eq_some_iff.1 size8I
  obtain ⟨k, hk, ht⟩ := Option.map_eq_some_iff.1 size8B
  simp [Instr.build, hzv, Value.cells, Instr.fill, sizeOf, typeInfo, hj, hs, hk, ht, cellsI, cellsB, ctlC, zL, zP, List.replicate]

set_option maxRecDepth 100000 in
theorem arrayI (A : Option Addr) (c : Nat) (w : World) : (Instr.arrayAt 49 (.slice A 8 c)).run Try.prog w = .ok (.pointer A) w := by
  simp [Instr.arrayAt, run_underlying Try.underlying49]
set_option maxRecDepth 100000 in
theorem arrayB (A : Option Addr) (c : Nat) (w : World) : (Instr.arrayAt 50 (.slice A 8 c)).run Try.prog w = .ok (.pointer A) w := by
  simp [Instr.arrayAt, run_underlying Try.underlying50]
theorem wp_toArray {P : Program} {o : Oper} {a : Act} {w : World} {K : Act → World → Prop} {Q : Exit → Act → World → Prop} (t : TypeId) (x : Operand) (ho : o.op = .sliceToArrayPointer t x) (u v : Value) (hx : a.eval x = u) (hr : (Instr.arrayAt t u).run P w = .ok v w) (h : K (a.put o.dst v) w) : Oper.wp P o a w K Q := by
  unfold Oper.wp execOp
  simp only [ho, hx, Sem.run_bind, Sem.run_pure, Result.andThen_ok, hr]
  exact h
theorem wp_build2 {P : Program} {o : Oper} {a : Act} {w : World} {K : Act → World → Prop} {Q : Exit → Act → World → Prop} (t : TypeId) (x y : Operand) (ho : o.op = .build t #[(0, x), (1, y)]) (u u' v : Value) (hx : a.eval x = u) (hy : a.eval y = u') (hr : (Instr.build t #[(0, u), (1, u')]).run P w = .ok v w) (h : K (a.put o.dst v) w) : Oper.wp P o a w K Q := by
  unfold Oper.wp execOp
  simp only [ho, hx, hy, Sem.run_bind, Sem.run_pure, Result.andThen_ok, List.map_toArray, List.map_cons, List.map_nil, hr]
  exact h

/-- A []bool of the call's own. -/
def GivesRowB (n : Nat) (gs : List Bool) (w : World) (e : Ending) (w' : World) : Prop :=
  ∃ A c, e = .returned (.slice A n c) ∧ Hid (OwnB w' w.heap.size w'.heap.size A gs) ∧ Below w.heap.size w w'
set_option maxRecDepth 100000 in
set_option maxHeartbeats 1000000 in
theorem cloneB (A : Option Addr) (n c : Nat) (gs : List Bool) (w : World) (hl : gs.length = n) (hn : 0 < n) (hn2 : n ≤ 256) (h : BoolL w A gs) :
    Calls Try.prog 60 #[.slice A n c] w (GivesRowB n gs w) := by
  obtain ⟨ad, rfl, -⟩ := h.src (by omega)
  have HS := Lib.hid (fun W (hb : Below w.heap.size w W) => (h.below hb).src (by omega))
  have HC : Hid ((cellsB gs).length = n * 1) := Lib.hid (by rw [cellsB_len]; omega)
  have hba := alloc_below w (.cells #[] 4)
  have hnil : ∀ W : World, (binOp .eql 24 (.slice (some ad) n c) (.slice none 0 0)).run Try.prog W = .ok (.bool false) W := fun W => Lib.run_eql_slice_nil W _ _ (some ad) n c 0 0 Try.underlying24
  clear hl h
  go_enter Try.func60, Try.ntmps60
  go_wp2_with (first | (with_reducible refine wpList_app_fresh rfl (.tmp 5) (.tmp 6) 24 rfl 4 (.bool false) 1 1 Try.underlying24 infoBx rfl (by decide) _ rfl (some ad) n c hn (cellsB gs) rfl HC.out (HS.out _ hba) (by unfold maxLen; omega) (by omega) ?_))
  intro A1 c1 w1 hb1 O1
  have hk1 := hba.trans (hb1.mono (by omega))
  have S1 := Lib.hid (ownB_fresh (lo := w.heap.size) O1.out hn (by omega))
  clear HS HC hba hb1 O1
  go_wp2
  go_ret
  exact ⟨_, _, rfl, S1, hk1⟩

theorem arr12 (T : Array Value) (h : T.size = 12) : ∃ t0 t1 t2 t3 t4 t5 t6 t7 t8 t9 t10 t11 : Value, T = #[t0, t1, t2, t3, t4, t5, t6, t7, t8, t9, t10, t11] := by
  obtain ⟨l⟩ := T
  match l, h with
  | [t0, t1, t2, t3, t4, t5, t6, t7, t8, t9, t10, t11], _ => exact ⟨t0, t1, t2, t3, t4, t5, t6, t7, t8, t9, t10, t11, rfl⟩

/-- A world of the region: what lay before is as it was, the result's block is there. -/
def RC (W0 : World) (m : Nat) (W : World) : Prop := Below (m + 1) W0 W ∧ m + 1 < W.heap.size ∧ ∃ cs : Array Value, cs.size = 16 ∧ Box W (m + 1) 52 cs
def ctoF (M b0 o0 b1 o1 : Nat) (s0 s1 : Value) (d0 : List Int) (d1 : List Bool) : Nat → (Nat → Value) → World → Prop
  | 0, t, _ => t 3 = .pointer (some ⟨M, 0, none⟩)
  | 1, t, _ => t 4 = s0
  | 2, t, _ => t 5 = .pointer (some ⟨b0, o0, none⟩)
  | 3, t, _ => t 6 = .agg (cellsI d0).toArray
  | 4, t, _ => t 7 = .pointer (some ⟨M, 1, none⟩)
  | 5, t, _ => t 8 = s1
  | 6, t, _ => t 9 = .pointer (some ⟨b1, o1, none⟩)
  | 7, t, _ => t 10 = .agg (cellsB d1).toArray
  | 8, t, _ => t 11 = .agg (ctlC d0 d1).toArray
  | 9, _, w => Box w (M + 1) 52 (ctlC d0 d1).toArray
  | _, _, _ => True
theorem ctoF_any {M b0 o0 b1 o1 : Nat} {s0 s1 : Value} {d0 : List Int} {d1 : List Bool} {w w' : World} : ∀ (j : Nat) (t : Nat → Value), j ≠ 9 → ctoF M b0 o0 b1 o1 s0 s1 d0 d1 j t w → ctoF M b0 o0 b1 o1 s0 s1 d0 d1 j t w'
  | 0, _, _, h | 1, _, _, h | 2, _, _, h | 3, _, _, h | 4, _, _, h | 5, _, _, h | 6, _, _, h | 7, _, _, h | 8, _, _, h => h
  | 9, _, n, _ => (n rfl).elim
  | _ + 10, _, _, _ => trivial

set_option maxRecDepth 100000 in
set_option maxHeartbeats 4000000 in
theorem controllerOf (A0 A1 : Option Addr) (c0 c1 : Nat) (d0 : List Int) (d1 : List Bool) (w : World) (l0 : d0.length = 8) (l1 : d1.length = 8) (h0 : IntL w A0 d0) (h1 : BoolL w A1 d1) :
    Calls Try.prog 33 #[.agg #[.slice A0 8 c0, .slice A1 8 c1]] w fun e w' => e = .returned (.agg (ctlC d0 d1).toArray) ∧ Below w.heap.size w w' := by
  obtain ⟨W0, hW0⟩ : ∃ W0, W0 = ((w.alloc (.cells #[.slice A0 8 c0, .slice A1 8 c1] 26)).alloc (.cells (ctlC zL zP).toArray 52)) := ⟨_, rfl⟩
  have hb0 : Below w.heap.size w W0 := by rw [hW0]; exact bt (alloc_below _ _) (alloc_below _ _)
  have X0 : Box W0 w.heap.size 26 #[.slice A0 8 c0, .slice A1 8 c1] := by rw [hW0]; exact (Box.new _ _ _).alloc _
  have Y0 : Box W0 (w.heap.size + 1) 52 (ctlC zL zP).toArray := by rw [hW0]; have := Box.new (w.alloc (.cells #[.slice A0 8 c0, .slice A1 8 c1] 26)) 52 (ctlC zL zP).toArray; rw [World.size_alloc] at this; exact this
  obtain ⟨b0, o0, rfl, -⟩ := h0.range (by omega)
  obtain ⟨b1, o1, rfl, -⟩ := h1.range (by omega)
  have HB : Hid (∀ W, RC W0 w.heap.size W → Below w.heap.size w W) := Lib.hid (fun W r => hb0.trans (r.1.mono (by omega)))
  have HG : Hid (∀ W, RC W0 w.heap.size W → W.rangeAt b0 o0 (cellsI d0) ∧ W.rangeAt b1 o1 (cellsB d1)) := Lib.hid (fun W r => by
    obtain ⟨x, y, e, q⟩ := (h0.below (HB.out _ r)).range (by omega)
    obtain ⟨x', y', e', q'⟩ := (h1.below (HB.out _ r)).range (by omega)
    injection e with e; injection e with r1 r2; subst r1 r2
    injection e' with e'; injection e' with r1 r2; subst r1 r2
    exact ⟨q, q'⟩)
  have HK : Hid (∀ W', RC W0 w.heap.size W' → W'.cell? ⟨w.heap.size, 0, none⟩ = some (.slice (some ⟨b0, o0, none⟩) 8 c0) ∧ W'.cell? ⟨w.heap.size, 1, none⟩ = some (.slice (some ⟨b1, o1, none⟩) 8 c1)) := Lib.hid (fun W' r => by
    have X := X0.below r.1 (by omega)
    exact ⟨X.cell 0 rfl, X.cell 1 rfl⟩)
  have HZ : Hid ((Try.prog.info? 49).map (·.size) = some (cellsI d0).length ∧ (Try.prog.info? 50).map (·.size) = some (cellsB d1).length) := Lib.hid ⟨by rw [cellsI_len, l0]; exact size8I, by rw [cellsB_len, l1]; exact size8B⟩
  have HL := Lib.hid (And.intro l0 l1)
  have HS : Hid ((ctlC d0 d1).toArray.size = 16 ∧ (Try.prog.info? 52).map (·.size) = some (ctlC d0 d1).toArray.size) := Lib.hid (by
    have q : (ctlC d0 d1).toArray.size = 16 := by rw [List.size_toArray, ctlC_len, l0, l1]
    exact ⟨q, by rw [q]; exact sizeCtl⟩)
  have hs0 : W0.heap.size = w.heap.size + 2 := by rw [hW0]; simp
  have HW0 := Lib.hid hW0
  have R0 : RC W0 w.heap.size W0.drew := ⟨(Below.refl _ _).drew, by show w.heap.size + 1 < W0.heap.size; omega, _, rfl, Y0⟩
  clear l0 l1 h0 h1 X0 Y0 hW0 hs0 hb0
  go_enter Try.func33, Try.ntmps33
  go_wp2_with (first | (with_reducible refine wpList_alloc_at rfl 52 rfl (ctlC zL zP).toArray infoCtx (w.heap.size + 1) (World.size_alloc _ _) ?_))
  rw [← HW0.out]
  refine wp_region_facts (by kernel_rfl) [[3], [4], [5], [6], [7], [8], [9], [10], [11], []] [[], [0], [0, 1], [0, 1, 2], [], [4], [4, 5], [4, 5, 6], [0, 1, 2, 3, 4, 5, 6, 7], [0, 1, 2, 3, 4, 5, 6, 7, 8]] [0, 1, 2] (by kernel_rfl) (RC W0 w.heap.size) (ctoF w.heap.size b0 o0 b1 o1 (.slice (some ⟨b0, o0, none⟩) 8 c0) (.slice (some ⟨b1, o1, none⟩) 8 c1) d0 d1) R0 ?_ ?_
  · refine ⟨?_, ?_, ?_, ?_, ?_, ?_, ?_, ?_, ?_, ?_, trivial⟩
    · intro T W hT hs hC hF K hK
      obtain ⟨t0, t1, t2, t3, t4, t5, t6, t7, t8, t9, t10, t11, rfl⟩ := arr12 T hT
      obtain rfl : t1 = .pointer (some ⟨w.heap.size, 0, none⟩) := hs 1 (by decide)
      obtain rfl : t2 = .pointer (some ⟨w.heap.size + 1, 0, none⟩) := hs 2 (by decide)
      clear hF hs hT
      go_simp
      exact hK.out _ W hC (fun _ _ _ h => h) rfl
    · intro T W hT hs hC hF K hK
      obtain ⟨t0, t1, t2, t3, t4, t5, t6, t7, t8, t9, t10, t11, rfl⟩ := arr12 T hT
      obtain rfl : t1 = .pointer (some ⟨w.heap.size, 0, none⟩) := hs 1 (by decide)
      obtain rfl : t2 = .pointer (some ⟨w.heap.size + 1, 0, none⟩) := hs 2 (by decide)
      have f0 := hF 0 (by decide)
      simp only [ctoF, mask] at f0
      clear hF hs hT
      subst f0
      have k := (HK.out W hC).1
      go_simp
      exact hK.out _ W hC (fun _ _ _ h => h) rfl
    · intro T W hT hs hC hF K hK
      obtain ⟨t0, t1, t2, t3, t4, t5, t6, t7, t8, t9, t10, t11, rfl⟩ := arr12 T hT
      obtain rfl : t1 = .pointer (some ⟨w.heap.size, 0, none⟩) := hs 1 (by decide)
      obtain rfl : t2 = .pointer (some ⟨w.heap.size + 1, 0, none⟩) := hs 2 (by decide)
      have f1 := hF 1 (by decide)
      simp only [ctoF, mask] at f1
      clear hF hs hT
      subst f1
      exact wp_toArray 49 (.tmp 4) rfl _ _ rfl (arrayI _ _ _) (hK.out _ W hC (fun _ _ _ h => h) rfl)
    · intro T W hT hs hC hF K hK
      obtain ⟨t0, t1, t2, t3, t4, t5, t6, t7, t8, t9, t10, t11, rfl⟩ := arr12 T hT
      obtain rfl : t1 = .pointer (some ⟨w.heap.size, 0, none⟩) := hs 1 (by decide)
      obtain rfl : t2 = .pointer (some ⟨w.heap.size + 1, 0, none⟩) := hs 2 (by decide)
      have f2 := hF 2 (by decide)
      simp only [ctoF, mask] at f2
      clear hF hs hT
      subst f2
      exact wp_load_mid 49 (.tmp 5) rfl b0 o0 rfl (cellsI d0) _ (HG.out W hC).1 Try.underlying49 rfl HZ.out.1 (hK.out _ W hC (fun _ _ _ h => h) rfl)
    · intro T W hT hs hC hF K hK
      obtain ⟨t0, t1, t2, t3, t4, t5, t6, t7, t8, t9, t10, t11, rfl⟩ := arr12 T hT
      obtain rfl : t1 = .pointer (some ⟨w.heap.size, 0, none⟩) := hs 1 (by decide)
      obtain rfl : t2 = .pointer (some ⟨w.heap.size + 1, 0, none⟩) := hs 2 (by decide)
      clear hF hs hT
      go_simp
      exact hK.out _ W hC (fun _ _ _ h => h) rfl
    · intro T W hT hs hC hF K hK
      obtain ⟨t0, t1, t2, t3, t4, t5, t6, t7, t8, t9, t10, t11, rfl⟩ := arr12 T hT
      obtain rfl : t1 = .pointer (some ⟨w.heap.size, 0, none⟩) := hs 1 (by decide)
      obtain rfl : t2 = .pointer (some ⟨w.heap.size + 1, 0, none⟩) := hs 2 (by decide)
      have f4 := hF 4 (by decide)
      simp only [ctoF, mask] at f4
      clear hF hs hT
      subst f4
      have k := (HK.out W hC).2
      go_simp
      exact hK.out _ W hC (fun _ _ _ h => h) rfl
    · intro T W hT hs hC hF K hK
      obtain ⟨t0, t1, t2, t3, t4, t5, t6, t7, t8, t9, t10, t11, rfl⟩ := arr12 T hT
      obtain rfl : t1 = .pointer (some ⟨w.heap.size, 0, none⟩) := hs 1 (by decide)
      obtain rfl : t2 = .pointer (some ⟨w.heap.size + 1, 0, none⟩) := hs 2 (by decide)
      have f5 := hF 5 (by decide)
      simp only [ctoF, mask] at f5
      clear hF hs hT
      subst f5
      exact wp_toArray 50 (.tmp 8) rfl _ _ rfl (arrayB _ _ _) (hK.out _ W hC (fun _ _ _ h => h) rfl)
    · intro T W hT hs hC hF K hK
      obtain ⟨t0, t1, t2, t3, t4, t5, t6, t7, t8, t9, t10, t11, rfl⟩ := arr12 T hT
      obtain rfl : t1 = .pointer (some ⟨w.heap.size, 0, none⟩) := hs 1 (by decide)
      obtain rfl : t2 = .pointer (some ⟨w.heap.size + 1, 0, none⟩) := hs 2 (by decide)
      have f6 := hF 6 (by decide)
      simp only [ctoF, mask] at f6
      clear hF hs hT
      subst f6
      exact wp_load_mid 50 (.tmp 9) rfl b1 o1 rfl (cellsB d1) _ (HG.out W hC).2 Try.underlying50 rfl HZ.out.2 (hK.out _ W hC (fun _ _ _ h => h) rfl)
    · intro T W hT hs hC hF K hK
      obtain ⟨t0, t1, t2, t3, t4, t5, t6, t7, t8, t9, t10, t11, rfl⟩ := arr12 T hT
      obtain rfl : t1 = .pointer (some ⟨w.heap.size, 0, none⟩) := hs 1 (by decide)
      obtain rfl : t2 = .pointer (some ⟨w.heap.size + 1, 0, none⟩) := hs 2 (by decide)
      have f3 := hF 3 (by decide)
      simp only [ctoF, mask] at f3
      have f7 := hF 7 (by decide)
      simp only [ctoF, mask] at f7
      clear hF hs hT
      subst f3 f7
      exact wp_build2 52 (.tmp 6) (.tmp 10) rfl _ _ _ rfl rfl (buildCtl d0 d1 HL.out.1 HL.out.2 W) (hK.out _ W hC (fun _ _ _ h => h) rfl)
    · intro T W hT hs hC hF K hK
      obtain ⟨t0, t1, t2, t3, t4, t5, t6, t7, t8, t9, t10, t11, rfl⟩ := arr12 T hT
      obtain rfl : t1 = .pointer (some ⟨w.heap.size, 0, none⟩) := hs 1 (by decide)
      obtain rfl : t2 = .pointer (some ⟨w.heap.size + 1, 0, none⟩) := hs 2 (by decide)
      have f8 := hF 8 (by decide)
      simp only [ctoF, mask] at f8
      clear hF hs hT
      subst f8
      obtain ⟨q1, q2, cs, hcs, Y⟩ := hC
      exact wp_store_mid 52 (.tmp 2) (.tmp 11) rfl (w.heap.size + 1) 0 (ctlC d0 d1).toArray rfl rfl (by rw [HS.out.1, ← hcs]; exact box_there Y) HS.out.2 (all_oneCell_toArray (ctlC_one d0 d1)) (hK.out undef _ ⟨below_setCellsN (Nat.le_refl _) _ _ _ q1, by rw [setCells_size]; exact q2, _, HS.out.1, box_put Y _ (by have := HS.out.1; rw [List.size_toArray] at this; rw [this, hcs])⟩ (fun j t hj h => ctoF_any j t hj h) (box_put Y _ (by have := HS.out.1; rw [List.size_toArray] at this; rw [this, hcs])))
  · intro T W hT hs hC hF
    obtain ⟨t0, t1, t2, t3, t4, t5, t6, t7, t8, t9, t10, t11, rfl⟩ := arr12 T hT
    obtain rfl : t1 = .pointer (some ⟨w.heap.size, 0, none⟩) := hs 1 (by decide)
    obtain rfl : t2 = .pointer (some ⟨w.heap.size + 1, 0, none⟩) := hs 2 (by decide)
    have Y : Box W (w.heap.size + 1) 52 (ctlC d0 d1).toArray := hF 9 (by decide)
    have HBw := Lib.hid (HB.out _ hC)
    have HLd := Lib.hid (run_loadVar_mid (P := Try.prog) W (w.heap.size + 1) 0 52 (ctlC d0 d1) _ (box_range Y) Try.underlying52 rfl (by have := HS.out.2; rwa [List.size_toArray] at this))
    clear hF hs hT hC R0 Y
    go_wp2
    exact bodyPost_ret (v := .agg (ctlC d0 d1).toArray) (results_cellC Try.results33 (by rfl) HLd.out) rfl ⟨rfl, HBw.out⟩
theorem arr10 (T : Array Value) (h : T.size = 10) : ∃ t0 t1 t2 t3 t4 t5 t6 t7 t8 t9 : Value, T = #[t0, t1, t2, t3, t4, t5, t6, t7, t8, t9] := by
  obtain ⟨l⟩ := T
  match l, h with
  | [t0, t1, t2, t3, t4, t5, t6, t7, t8, t9], _ => exact ⟨t0, t1, t2, t3, t4, t5, t6, t7, t8, t9, rfl⟩

/-- A controller of the call's own, eight lines. -/
def GivesIrq (ls : List Int) (ps : List Bool) (w : World) (e : Ending) (w' : World) : Prop :=
  ∃ A0 A1 c0 c1, e = .returned (.agg #[.slice A0 8 c0, .slice A1 8 c1]) ∧ Hid (OwnA w' w.heap.size w'.heap.size [.slice A0 8 c0, .slice A1 8 c1] [.I ls, .B ps]) ∧ Below w.heap.size w w'
def YV2 (b : Nat) (W : World) (j : Nat) : Value := (W.cell? ⟨b, j, none⟩).getD undef
theorem YV2.of {b : Nat} {W : World} {t : TypeId} {cs : Array Value} (h : Box W b t cs) (hs : cs.size = 2) (j : Nat) (hj : j < 2) : W.cell? ⟨b, j, none⟩ = some (YV2 b W j) := by
  have := h.cell j (Array.getElem?_eq_getElem (by omega : j < cs.size))
  unfold YV2; rw [this]; rfl
theorem Box.all2 {w : World} {b : Nat} {t : TypeId} {cs : Array Value} (X : Box w b t cs) (hs : cs.size = 2) (u0 u1 : Value) :
    Box ((w.setCell ⟨b, 0, none⟩ u0).setCell ⟨b, 1, none⟩ u1) b t #[u0, u1] := by
  have := (X.set 0 u0).set 1 u1
  rw [show (cs.setIfInBounds 0 u0).setIfInBounds 1 u1 = #[u0, u1] from by
    match cs, hs with
    | ⟨[a, b]⟩, _ => rfl] at this
  exact this
theorem below2 {w0 w : World} {b : Nat} (h : Below w0.heap.size w0 w) (hb : w0.heap.size ≤ b) (u0 u1 : Value) : Below w0.heap.size w0 ((w.setCell ⟨b, 0, none⟩ u0).setCell ⟨b, 1, none⟩ u1) :=
  (h.setCell (p := ⟨b, 0, none⟩) hb u0).setCell (p := ⟨b, 1, none⟩) hb u1
theorem size2 (w : World) (b : Nat) (u0 u1 : Value) : ((w.setCell ⟨b, 0, none⟩ u0).setCell ⟨b, 1, none⟩ u1).heap.size = w.heap.size := by simp [World.setCell]
theorem OwnA.far2 {w : World} {lo hi : Nat} {B0 B1 : Option Addr} {m0 m1 e0 e1 : Nat} {r0 : List Int} {r1 : List Bool} (h : OwnA w lo hi [.slice B0 m0 e0, .slice B1 m1 e1] [.I r0, .B r1]) {b : Nat} {cs : Array Value} (X : Box w b 26 cs) (u0 u1 : Value) : OwnA ((w.setCell ⟨b, 0, none⟩ u0).setCell ⟨b, 1, none⟩ u1) lo hi [.slice B0 m0 e0, .slice B1 m1 e1] [.I r0, .B r1] := by
  obtain ⟨⟨⟨a0, b0, q0, o0⟩, ⟨a1, b1, q1, o1⟩, -⟩, hn⟩ := h
  exact ⟨⟨⟨a0, b0, q0, (o0.farB X (by decide) 0 u0).farB (X.set 0 u0) (by decide) 1 u1⟩, ⟨a1, b1, q1, (o1.far X (by decide) 0 u0).far (X.set 0 u0) (by decide) 1 u1⟩, trivial⟩, hn⟩
def RQ (W0 : World) (m : Nat) (W : World) : Prop := Below (m + 1) W0 W ∧ m + 1 ≤ W.heap.size ∧ ∃ cs : Array Value, cs.size = 2 ∧ Box W (m + 1) 26 cs
theorem RQ.step {W0 W W' : World} {m : Nat} (h : RQ W0 m W) (k : Below W.heap.size W W') : RQ W0 m W' := by
  obtain ⟨a, q, cs, hs, b⟩ := h
  exact ⟨a.trans (k.mono q), Nat.le_trans q k.size, cs, hs, b.step k⟩
theorem RQ.alloc {W0 W : World} {m : Nat} (h : RQ W0 m W) (o : Obj) : RQ W0 m (W.alloc o) := h.step (alloc_below _ _)
theorem RQ.set {W0 W : World} {m : Nat} (h : RQ W0 m W) (j : Nat) (v : Value) : RQ W0 m (W.setCell ⟨m + 1, j, none⟩ v) := by
  obtain ⟨a, q, cs, hs, b⟩ := h
  exact ⟨a.setCell (p := ⟨m + 1, j, none⟩) (Nat.le_refl _) v, by simpa [World.setCell] using q, _, by simpa using hs, b.set j v⟩
def irqF (M : Nat) (d0 : List Int) (d1 : List Bool) : Nat → (Nat → Value) → World → Prop
  | 0, t, _ => t 3 = .pointer (some ⟨M, 0, none⟩)
  | 1, t, _ => t 4 = .slice (some ⟨M, 0, none⟩) 8 8
  | 2, t, w => ∃ A c, t 5 = .slice A 8 c ∧ OwnI w M w.heap.size A d0
  | 3, t, _ => t 6 = .pointer (some ⟨M, 8, none⟩)
  | 4, t, _ => t 7 = .slice (some ⟨M, 8, none⟩) 8 8
  | 5, t, w => ∃ A c A' c', t 5 = .slice A 8 c ∧ t 8 = .slice A' 8 c' ∧ OwnI w M w.heap.size A d0 ∧ OwnB w M w.heap.size A' d1
  | 6, t, _ => ∃ A c A' c', t 5 = .slice A 8 c ∧ t 8 = .slice A' 8 c' ∧ t 9 = .agg #[.slice A 8 c, .slice A' 8 c']
  | 7, t, w => ∃ A c A' c', t 5 = .slice A 8 c ∧ t 8 = .slice A' 8 c' ∧ Box w (M + 1) 26 #[.slice A 8 c, .slice A' 8 c']
  | _, _, _ => True
section
variable {M : Nat} {d0 : List Int} {d1 : List Bool} {w w' : World}
theorem irqF_below (k : Below w.heap.size w w') : ∀ (j : Nat) (t : Nat → Value), irqF M d0 d1 j t w → irqF M d0 d1 j t w'
  | 0, _, h | 1, _, h | 3, _, h | 4, _, h | 6, _, h => h
  | 2, _, ⟨A, c, e, h⟩ => ⟨A, c, e, (h.below k).wideB (Nat.le_refl _) k.size⟩
  | 5, _, ⟨A, c, A', c', e, e2, h, h2⟩ => ⟨A, c, A', c', e, e2, (h.below k).wideB (Nat.le_refl _) k.size, (h2.below k).wide (Nat.le_refl _) k.size⟩
  | 7, _, ⟨A, c, A', c', e, e2, h⟩ => ⟨A, c, A', c', e, e2, h.step k⟩
  | _ + 8, _, _ => trivial
theorem irqF_store {ys : Array Value} (Y : Box w (M + 1) 26 ys) (i : Nat) (u : Value) : ∀ (j : Nat) (t : Nat → Value), j ≠ 7 → irqF M d0 d1 j t w → irqF M d0 d1 j t (w.setCell ⟨M + 1, i, none⟩ u)
  | 0, _, _, h | 1, _, _, h | 3, _, _, h | 4, _, _, h | 6, _, _, h => h
  | 2, _, _, ⟨A, c, e, h⟩ => ⟨A, c, e, (h.farB Y (by decide) i u).wideB (Nat.le_refl _) (by simp [World.setCell])⟩
  | 5, _, _, ⟨A, c, A', c', e, e2, h, h2⟩ => ⟨A, c, A', c', e, e2, (h.farB Y (by decide) i u).wideB (Nat.le_refl _) (by simp [World.setCell]), (h2.far Y (by decide) i u).wide (Nat.le_refl _) (by simp [World.setCell])⟩
  | 7, _, n, _ => (n rfl).elim
  | _ + 8, _, _, _ => trivial
end

set_option maxRecDepth 100000 in
set_option maxHeartbeats 4000000 in
theorem controllerIrq (d0 : List Int) (d1 : List Bool) (w : World) (l0 : d0.length = 8) (l1 : d1.length = 8) :
    Calls Try.prog 39 #[.agg (ctlC d0 d1).toArray] w (GivesIrq d0 d1 w) := by
  obtain ⟨W0, hW0⟩ : ∃ W0, W0 = ((w.alloc (.cells (ctlC d0 d1).toArray 52)).alloc (.cells #[.slice none 0 0, .slice none 0 0] 26)) := ⟨_, rfl⟩
  have hb0 : Below w.heap.size w W0 := by rw [hW0]; exact bt (alloc_below _ _) (alloc_below _ _)
  have X0 : Box W0 w.heap.size 52 (ctlC d0 d1).toArray := by rw [hW0]; exact (Box.new _ _ _).alloc _
  have Y0 : Box W0 (w.heap.size + 1) 26 #[.slice none 0 0, .slice none 0 0] := by rw [hW0]; simpa using Box.new (w.alloc (.cells (ctlC d0 d1).toArray 52)) 26 #[.slice none 0 0, .slice none 0 0]
  have HB : Hid (∀ W, RQ W0 w.heap.size W → Below w.heap.size w W) := Lib.hid (fun W r => hb0.trans (r.1.mono (by omega)))
  have HC1 := Lib.hid (fun W (r : RQ W0 w.heap.size W) => cloneI (some ⟨w.heap.size, 0, none⟩) 8 8 d0 W l0 (by omega) (by omega) (box_levels (X0.below r.1 (by omega))))
  have HC2 := Lib.hid (fun W (r : RQ W0 w.heap.size W) => cloneB (some ⟨w.heap.size, 8, none⟩) 8 8 d1 W l1 (by omega) (by omega) (box_pends (X0.below r.1 (by omega)) l0))
  have HL := Lib.hid (And.intro l0 l1)
  have hs0 : W0.heap.size = w.heap.size + 2 := by rw [hW0]; simp
  have HW0 := Lib.hid hW0
  have R0 : RQ W0 w.heap.size W0.drew := ⟨(Below.refl _ _).drew, by show w.heap.size + 1 ≤ W0.heap.size; omega, _, rfl, Y0⟩
  generalize ctlC d0 d1 = cs at HW0
  clear l0 l1 X0 Y0 hW0 hs0 hb0
  go_enter Try.func39, Try.ntmps39
  go_wp2
  rw [← HW0.out]
  refine wp_region_facts (by kernel_rfl) [[3], [4], [5], [6], [7], [5, 8], [5, 8, 9], [5, 8]] [[], [0], [0, 1], [], [3], [3, 4, 2, 0, 1], [3, 4, 2, 0, 1, 5], [0, 1, 2, 3, 4, 5, 6]] [0, 1, 2] (by kernel_rfl) (RQ W0 w.heap.size) (irqF w.heap.size d0 d1) R0 ?_ ?_
  · refine ⟨?_, ?_, ?_, ?_, ?_, ?_, ?_, ?_, trivial⟩
    · intro T W hT hs hC hF K hK
      obtain ⟨t0, t1, t2, t3, t4, t5, t6, t7, t8, t9, rfl⟩ := arr10 T hT
      obtain rfl : t1 = .pointer (some ⟨w.heap.size, 0, none⟩) := hs 1 (by decide)
      obtain rfl : t2 = .pointer (some ⟨w.heap.size + 1, 0, none⟩) := hs 2 (by decide)
      clear hF hs hT
      go_simp
      exact hK.out _ W hC (fun _ _ _ h => h) rfl
    · intro T W hT hs hC hF K hK
      obtain ⟨t0, t1, t2, t3, t4, t5, t6, t7, t8, t9, rfl⟩ := arr10 T hT
      obtain rfl : t1 = .pointer (some ⟨w.heap.size, 0, none⟩) := hs 1 (by decide)
      obtain rfl : t2 = .pointer (some ⟨w.heap.size + 1, 0, none⟩) := hs 2 (by decide)
      have f0 := hF 0 (by decide)
      simp only [irqF, mask] at f0
      clear hF hs hT
      subst f0
      go_simp
      exact hK.out _ W hC (fun _ _ _ h => h) rfl
    · intro T W hT hs hC hF K hK
      obtain ⟨t0, t1, t2, t3, t4, t5, t6, t7, t8, t9, rfl⟩ := arr10 T hT
      obtain rfl : t1 = .pointer (some ⟨w.heap.size, 0, none⟩) := hs 1 (by decide)
      obtain rfl : t2 = .pointer (some ⟨w.heap.size + 1, 0, none⟩) := hs 2 (by decide)
      have f1 := hF 1 (by decide)
      simp only [irqF, mask] at f1
      clear hF hs hT
      subst f1
      go_simp
      refine (HC1.out W hC).mono ?_
      rintro e w1 ⟨A, c, rfl, O, k⟩
      exact hK.out _ w1 (hC.step k) (fun j t _ h => irqF_below k j t h) ⟨A, c, rfl, O.out.wideB (HB.out _ hC).size (Nat.le_refl _)⟩
    · intro T W hT hs hC hF K hK
      obtain ⟨t0, t1, t2, t3, t4, t5, t6, t7, t8, t9, rfl⟩ := arr10 T hT
      obtain rfl : t1 = .pointer (some ⟨w.heap.size, 0, none⟩) := hs 1 (by decide)
      obtain rfl : t2 = .pointer (some ⟨w.heap.size + 1, 0, none⟩) := hs 2 (by decide)
      clear hF hs hT
      go_simp
      exact hK.out _ W hC (fun _ _ _ h => h) rfl
    · intro T W hT hs hC hF K hK
      obtain ⟨t0, t1, t2, t3, t4, t5, t6, t7, t8, t9, rfl⟩ := arr10 T hT
      obtain rfl : t1 = .pointer (some ⟨w.heap.size, 0, none⟩) := hs 1 (by decide)
      obtain rfl : t2 = .pointer (some ⟨w.heap.size + 1, 0, none⟩) := hs 2 (by decide)
      have f3 := hF 3 (by decide)
      simp only [irqF, mask] at f3
      clear hF hs hT
      subst f3
      go_simp
      exact hK.out _ W hC (fun _ _ _ h => h) rfl
    · intro T W hT hs hC hF K hK
      obtain ⟨t0, t1, t2, t3, t4, t5, t6, t7, t8, t9, rfl⟩ := arr10 T hT
      obtain rfl : t1 = .pointer (some ⟨w.heap.size, 0, none⟩) := hs 1 (by decide)
      obtain rfl : t2 = .pointer (some ⟨w.heap.size + 1, 0, none⟩) := hs 2 (by decide)
      have f4 := hF 4 (by decide)
      simp only [irqF, mask] at f4
      have f2 := hF 2 (by decide)
      simp only [irqF, mask] at f2
      clear hF hs hT
      obtain ⟨A, c, e5, O5⟩ := f2
      subst e5 f4
      have H5 := Lib.hid O5
      clear O5
      go_simp
      refine (HC2.out W hC).mono ?_
      rintro e w1 ⟨A', c', rfl, O, k⟩
      exact hK.out _ w1 (hC.step k) (fun j t _ h => irqF_below k j t h) ⟨A, c, A', c', rfl, rfl, (H5.out.below k).wideB (Nat.le_refl _) k.size, O.out.wide (HB.out _ hC).size (Nat.le_refl _)⟩
    · intro T W hT hs hC hF K hK
      obtain ⟨t0, t1, t2, t3, t4, t5, t6, t7, t8, t9, rfl⟩ := arr10 T hT
      obtain rfl : t1 = .pointer (some ⟨w.heap.size, 0, none⟩) := hs 1 (by decide)
      obtain rfl : t2 = .pointer (some ⟨w.heap.size + 1, 0, none⟩) := hs 2 (by decide)
      have f5 := hF 5 (by decide)
      simp only [irqF, mask] at f5
      clear hF hs hT
      obtain ⟨A, c, A', c', e5, e8, O5, O8⟩ := f5
      subst e5 e8
      clear O5 O8
      go_simp
      exact hK.out _ W hC (fun _ _ _ h => h) ⟨A, c, A', c', rfl, rfl, rfl⟩
    · intro T W hT hs hC hF K hK
      obtain ⟨t0, t1, t2, t3, t4, t5, t6, t7, t8, t9, rfl⟩ := arr10 T hT
      obtain rfl : t1 = .pointer (some ⟨w.heap.size, 0, none⟩) := hs 1 (by decide)
      obtain rfl : t2 = .pointer (some ⟨w.heap.size + 1, 0, none⟩) := hs 2 (by decide)
      have f6 := hF 6 (by decide)
      simp only [irqF, mask] at f6
      clear hF hs hT
      obtain ⟨A, c, A', c', e5, e8, e9⟩ := f6
      subst e5 e8 e9
      obtain ⟨hCa, hCb, ys, hys, Y⟩ := hC
      have y0 := YV2.of Y hys 0 (by omega)
      have y1 := YV2.of Y hys 1 (by omega)
      have z0 := Y.frozen 0
      have z1 := Y.frozen 1
      have HYs := Lib.hid (And.intro hys Y)
      have hC : RQ W0 w.heap.size W := ⟨hCa, hCb, ys, hys, Y⟩
      clear hys Y hCa hCb
      go_simp
      exact hK.out undef _ ((hC.set 0 _).set 1 _) (fun j t n h => irqF_store (HYs.out.2.set 0 _) 1 _ j t n (irqF_store HYs.out.2 0 _ j t n h)) ⟨A, c, A', c', rfl, rfl, HYs.out.2.all2 HYs.out.1 _ _⟩
  · intro T W hT hs hC hF
    obtain ⟨t0, t1, t2, t3, t4, t5, t6, t7, t8, t9, rfl⟩ := arr10 T hT
    obtain rfl : t1 = .pointer (some ⟨w.heap.size, 0, none⟩) := hs 1 (by decide)
    obtain rfl : t2 = .pointer (some ⟨w.heap.size + 1, 0, none⟩) := hs 2 (by decide)
    obtain ⟨A, c, A', c', e5, e8, O5, O8⟩ := hF 5 (by decide)
    obtain ⟨x1, x2, x3, x4, f5, f8, Y⟩ := hF 7 (by decide)
    have E1 : Value.slice A 8 c = .slice x1 8 x2 := (show t5 = _ from e5).symm.trans f5
    have E2 : Value.slice A' 8 c' = .slice x3 8 x4 := (show t8 = _ from e8).symm.trans f8
    simp only [Value.slice.injEq, true_and] at E1 E2
    obtain ⟨r1, r2⟩ := E1
    obtain ⟨r3, r4⟩ := E2
    subst r1 r2 r3 r4
    have y0 := Y.cell 0 rfl
    have y1 := Y.cell 1 rfl
    have HR : Hid (OwnA W w.heap.size W.heap.size [.slice A 8 c, .slice A' 8 c'] [.I d0, .B d1]) := Lib.hid (by
      have := ownIB (c := c) (d := c') O5 O8
      rwa [HL.out.1, HL.out.2] at this)
    have HBw := Lib.hid (HB.out _ hC)
    clear e5 e8 f5 f8 O5 O8 Y hF hs hT hC R0
    go_wp2
    refine bodyPost_ret (v := .agg #[.slice A 8 c, .slice A' 8 c']) (by simp [results, Try.results39, go_sem, y0, y1]) rfl ?_
    exact ⟨A, A', c, c', rfl, HR, HBw.out⟩
end Go.Proofs.Ytamfapmkdojhcaa
