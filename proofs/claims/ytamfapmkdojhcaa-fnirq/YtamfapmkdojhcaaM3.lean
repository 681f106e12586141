/- Texts of this claim, one behind the other: IrqImpl, IrqMath, IrqNext, IrqSpec, IrqApi, Settle. -/
import Derived.BigQuiet
import Derived.Laws.CopyOwn
import Derived.Deep.RegionHeld3
import Derived.Test.YtamfapmkdojhcaaM2
/- The program's changes of a controller: withPending, SetLevel, Raise, Ack; NewIrq. Written by gen_irqimpl.py. -/
namespace Go.Proofs.Ytamfapmkdojhcaa
open Go.RowKit

def pendF (ls : List Int) (ps : List Bool) (n : Int) (x : Bool) : List Int × List Bool × Int := if lineC ls ps n = 0 then (ls, ps.set n.toNat x, 0) else ([], [], lineC ls ps n)
def levF (ls : List Int) (ps : List Bool) (n v : Int) : List Int × List Bool × Int := if lineC ls ps n = 0 then (if lvB v = true then (ls.set n.toNat v, ps, 0) else ([], [], 19)) else ([], [], lineC ls ps n)
theorem lineC_zero {ls : List Int} {ps : List Bool} {n : Int} (h : lineC ls ps n = 0) : okIrq ls ps = true ∧ lvB n = true := by
  unfold lineC at h
  split at h
  · split at h
    · exact ⟨by assumption, by assumption⟩
    · omega
  · omega
/-- A controller of the call's own, and a code. -/
def GivesIrqCode (r : List Int × List Bool × Int) (w : World) (e : Ending) (w' : World) : Prop :=
  ∃ A0 A1 c0 c1, e = .returned (.tuple #[.agg #[.slice A0 r.1.length c0, .slice A1 r.2.1.length c1], .int .i64 r.2.2]) ∧ Hid (OwnA w' w.heap.size w'.heap.size [.slice A0 r.1.length c0, .slice A1 r.2.1.length c1] [.I r.1, .B r.2.1]) ∧ Below w.heap.size w w'
theorem ownA2_nil (w : World) (L R : Nat) : OwnA w L R [.slice none ([] : List Int).length 0, .slice none ([] : List Bool).length 0] [.I [], .B []] := ownIB (.inl rfl) (.inl rfl)
theorem gives_none {w w' : World} (c : Int) (hb : Below w.heap.size w w') : GivesIrqCode ([], [], c) w (.returned (.tuple #[.agg #[.slice none 0 0, .slice none 0 0], .int .i64 c])) w' := ⟨none, none, 0, 0, rfl, Lib.hid (ownA2_nil _ _ _), hb⟩

set_option maxRecDepth 100000 in
set_option maxHeartbeats 4000000 in
theorem withPending (A0 A1 : Option Addr) (n0 n1 c0 c1 : Nat) (d0 : List Int) (d1 : List Bool) (w : World) (n : Int) (x : Bool) (l0 : d0.length = n0) (l1 : d1.length = n1) (m0 : n0 ≤ maxLen) (m1 : n1 ≤ maxLen) (h0 : IntL w A0 d0) (h1 : BoolL w A1 d1) :
    Calls Try.prog 37 #[.agg #[.slice A0 n0 c0, .slice A1 n1 c1], .int .i64 n, .bool x] w (GivesIrqCode (pendF d0 d1 n x) w) := by
  obtain ⟨W0, hW0⟩ : ∃ W0, W0 = ((w.alloc (.cells #[.slice A0 n0 c0, .slice A1 n1 c1] 26)).alloc (.cells #[.slice none 0 0, .slice none 0 0] 26)) := ⟨_, rfl⟩
  have hb0 : Below w.heap.size w W0 := by rw [hW0]; exact bt (alloc_below _ _) (alloc_below _ _)
  have X0 : Hid (Box W0 w.heap.size 26 #[.slice A0 n0 c0, .slice A1 n1 c1]) := Lib.hid (by rw [hW0]; exact (Box.new _ _ _).alloc _)
  have Y0 : Hid (Box W0 (w.heap.size + 1) 26 #[.slice none 0 0, .slice none 0 0]) := Lib.hid (by rw [hW0]; simpa using Box.new (w.alloc (.cells #[.slice A0 n0 c0, .slice A1 n1 c1] 26)) 26 #[.slice none 0 0, .slice none 0 0])
  have HC := Lib.hid (checkLine A0 A1 n0 n1 c0 c1 d0 d1 W0 n l0 l1 m0 m1 (h0.below hb0))
  have H := Lib.hid (And.intro (And.intro l0 l1) (And.intro h0 h1))
  obtain ⟨r, hr⟩ : ∃ r, pendF d0 d1 n x = r := ⟨_, rfl⟩
  rw [hr]
  have HR := Lib.hid hr
  have HW0 := Lib.hid hW0
  clear l0 l1 m0 m1 h0 h1 hW0 hr
  go_enter Try.func37, Try.ntmps37
  go_wp2_with fail
  rw [← HW0.out]
  refine HC.out.mono ?_
  rintro e w1 ⟨rfl, hb1⟩
  have hb := bt hb0 hb1
  have Y1 := Lib.hid (Y0.out.step hb1)
  have s0 := Y1.out.cell 0 rfl
  have s1 := Y1.out.cell 1 rfl
  have s0z := Y1.out.frozen 0
  have s1z := Y1.out.frozen 1
  by_cases hc : lineC d0 d1 n = 0
  · have hcb : (lineC d0 d1 n != 0) = false := by simp [hc]
    obtain ⟨hok, hln⟩ := lineC_zero hc
    obtain ⟨q0, q1, -⟩ := okIrq_len hok
    obtain rfl : n0 = 8 := by have := H.out.1.1; omega
    obtain rfl : n1 = 8 := by have := H.out.1.2; omega
    obtain ⟨k, rfl⟩ : ∃ k : Nat, n = k := ⟨n.toNat, by have := lvB_range hln; omega⟩
    have hk : k < 8 := by have := lvB_range hln; omega
    have HO := Lib.hid (controllerOf A0 A1 c0 c1 d0 d1 w1 q0 q1 (H.out.2.1.below hb) (H.out.2.2.below hb))
    have HLn := Lib.hid (And.intro q0 q1)
    have f0 := (X0.out.step hb1).cell 0 rfl
    have f1 := (X0.out.step hb1).cell 1 rfl
    clear HC hok hln X0 Y0 H HW0 q0 q1
    have HRz : Hid (r = (d0, (d1.set k x), 0)) := Lib.hid (by rw [← HR.out]; unfold pendF; rw [if_pos hc]; rfl)
    clear HR hc
    go_wp2_with (fail)
    refine HO.out.mono ?_
    rintro e w2 ⟨rfl, hb2⟩
    have hb3 := bt hb hb2
    have Z0 : Hid (Box ((w2.alloc (.cells (ctlC zL zP).toArray 52)).setCells w2.heap.size 0 (ctlC d0 d1)) w2.heap.size 52 (ctlC d0 d1).toArray) := Lib.hid (box_put (Box.new w2 52 (ctlC zL zP).toArray) _ (by rw [ctlC_len, HLn.out.1, HLn.out.2]; rfl))
    have hct : ((w2.alloc (.cells (ctlC zL zP).toArray 52)).setCells w2.heap.size 0 (ctlC d0 d1)).cell? ⟨w2.heap.size, 8 + k, none⟩ = some (.bool (d1.getD k false)) := Z0.out.cell (8 + k) (by simpa using ctlC_pend HLn.out.1 k (show k < d1.length by rw [HLn.out.2]; exact hk))
    have hcz := Z0.out.frozen (8 + k)
    have HT : Hid ((w2.alloc (.cells (ctlC zL zP).toArray 52)).there w2.heap.size 0 (ctlC d0 d1).toArray.size) := Lib.hid (by
      have := box_there (Box.new w2 52 (ctlC zL zP).toArray)
      rwa [show (ctlC zL zP).toArray.size = (ctlC d0 d1).toArray.size from by rw [List.size_toArray, List.size_toArray, ctlC_len, ctlC_len, HLn.out.1, HLn.out.2]; rfl] at this)
    have HS : Hid ((Try.prog.info? 52).map (·.size) = some (ctlC d0 d1).toArray.size) := Lib.hid (by rw [List.size_toArray, ctlC_len, HLn.out.1, HLn.out.2]; exact sizeCtl)
    have HOn := Lib.hid (all_oneCell_toArray (ctlC_one d0 d1))
    have Z1 : Hid (Box (((w2.alloc (.cells (ctlC zL zP).toArray 52)).setCells w2.heap.size 0 (ctlC d0 d1)).setCell ⟨w2.heap.size, 8 + k, none⟩ (.bool x)) w2.heap.size 52 (ctlC d0 (d1.set k x)).toArray) := Lib.hid (by
      have := Z0.out.set (8 + k) (.bool x)
      rwa [List.setIfInBounds_toArray, ctlC_setP HLn.out.1 k x] at this)
    have HS2 : Hid ((Try.prog.info? 52).map (·.size) = some (ctlC d0 (d1.set k x)).length) := Lib.hid (by rw [ctlC_len, List.length_set, HLn.out.1, HLn.out.2]; exact sizeCtl)
    have hb4 : Below w1.heap.size w1 (((w2.alloc (.cells (ctlC zL zP).toArray 52)).setCells w2.heap.size 0 (ctlC d0 d1)).setCell ⟨w2.heap.size, 8 + k, none⟩ (.bool x)) := (below_setCellsN (by exact hb2.size) _ _ _ (bt hb2 (alloc_below _ _))).setCell (p := ⟨w2.heap.size, 8 + k, none⟩) (by exact hb2.size) _
    have HI := Lib.hid (controllerIrq d0 (d1.set k x) (((w2.alloc (.cells (ctlC zL zP).toArray 52)).setCells w2.heap.size 0 (ctlC d0 d1)).setCell ⟨w2.heap.size, 8 + k, none⟩ (.bool x)) (by exact HLn.out.1) (by rw [List.length_set]; exact HLn.out.2))
    have HN2 : Hid (d0.length = 8 ∧ (d1.set k x).length = 8) := Lib.hid ⟨by exact HLn.out.1, by rw [List.length_set]; exact HLn.out.2⟩
    generalize hcs : ctlC d0 d1 = cs at Z0 hct hcz HT HS HOn Z1 hb4 HI
    generalize hcs2 : ctlC d0 (d1.set k x) = cs2 at Z1 HS2 HI
    have HRg := Lib.hid (box_range Z1.out)
    generalize d1.getD k false = old at hct
    generalize d1.set k x = new at HRz HI HN2
    have hki : (k : Int) < 8 := by omega
    clear hcs hcs2 Z0 Z1 s0 s1 s0z s1z f0 f1 HO
    go_wp2_with (first
      | (with_reducible refine wpList_alloc_at rfl 52 rfl (ctlC zL zP).toArray infoCtx w2.heap.size rfl ?_)
      | (with_reducible refine wpList_store_mid rfl 52 (.tmp 9) (.tmp 18) rfl w2.heap.size 0 cs.toArray rfl rfl HT.out HS.out HOn.out ?_)
      | (with_reducible refine wpList_load_mid rfl 52 (.tmp 9) rfl w2.heap.size 0 rfl cs2 _ HRg.out Try.underlying52 rfl HS2.out ?_))
    refine HI.out.mono ?_
    rintro e w6 ⟨B0, B1, g0, g1, rfl, HA, hb6⟩
    have hb7 := bt hb4 hb6
    have Y6 := Y1.out.step hb7
    have y0 := Y6.cell 0 rfl
    have y1 := Y6.cell 1 rfl
    have y0z := Y6.frozen 0
    have y1z := Y6.frozen 1
    have HY6 := Lib.hid Y6
    have HQ : Hid (w.heap.size ≤ w1.heap.size ∧ w1.heap.size ≤ (((w2.alloc (.cells (ctlC zL zP).toArray 52)).setCells w2.heap.size 0 cs).setCell ⟨w2.heap.size, 8 + k, none⟩ (.bool x)).heap.size) := Lib.hid ⟨hb.size, hb4.size⟩
    clear Y6 HI hct hcz HT HS HOn HRg HS2
    go_wp2
    refine bodyPost_ret (v := .tuple #[.agg #[.slice B0 8 g0, .slice B1 8 g1], .int .i64 0]) (by simp [results, Try.results37, go_sem, y0, y1]) rfl ?_
    rw [HRz.out]
    refine ⟨B0, B1, g0, g1, ?_, Lib.hid ?_, below2 (bt hb hb7) (by omega) _ _⟩
    · show _ = Ending.returned (.tuple #[.agg #[.slice B0 d0.length g0, .slice B1 new.length g1], .int .i64 0])
      rw [HN2.out.1, HN2.out.2]
    · show OwnA _ _ _ [.slice B0 d0.length g0, .slice B1 new.length g1] [.I d0, .B new]
      rw [HN2.out.1, HN2.out.2]
      exact (HA.out.far2 HY6.out _ _).wide (Nat.le_trans HQ.out.1 HQ.out.2) (by rw [size2]; exact Nat.le_refl _)
  · have hcb : (lineC d0 d1 n != 0) = true := by simp [hc]
    have HRz : Hid (r = ([], [], lineC d0 d1 n)) := Lib.hid (by rw [← HR.out]; unfold pendF; rw [if_neg hc])
    generalize lineC d0 d1 n = cd at hcb hc HRz
    clear HR HC X0 Y0 H HW0 hc
    go_wp2
    refine bodyPost_ret (v := .tuple #[.agg #[.slice none 0 0, .slice none 0 0], .int .i64 cd]) (by simp [results, Try.results37, go_sem, s0, s1]) rfl ?_
    rw [HRz.out]
    exact gives_none cd (below2 hb (by omega) _ _)

set_option maxRecDepth 100000 in
set_option maxHeartbeats 4000000 in
theorem implSetLevel (A0 A1 : Option Addr) (n0 n1 c0 c1 : Nat) (d0 : List Int) (d1 : List Bool) (w : World) (n v : Int) (l0 : d0.length = n0) (l1 : d1.length = n1) (m0 : n0 ≤ maxLen) (m1 : n1 ≤ maxLen) (h0 : IntL w A0 d0) (h1 : BoolL w A1 d1) :
    Calls Try.prog 15 #[.agg #[.slice A0 n0 c0, .slice A1 n1 c1], .int .i64 n, .int .i64 v] w (GivesIrqCode (levF d0 d1 n v) w) := by
  obtain ⟨W0, hW0⟩ : ∃ W0, W0 = ((w.alloc (.cells #[.slice A0 n0 c0, .slice A1 n1 c1] 26)).alloc (.cells #[.slice none 0 0, .slice none 0 0] 26)) := ⟨_, rfl⟩
  have hb0 : Below w.heap.size w W0 := by rw [hW0]; exact bt (alloc_below _ _) (alloc_below _ _)
  have X0 : Hid (Box W0 w.heap.size 26 #[.slice A0 n0 c0, .slice A1 n1 c1]) := Lib.hid (by rw [hW0]; exact (Box.new _ _ _).alloc _)
  have Y0 : Hid (Box W0 (w.heap.size + 1) 26 #[.slice none 0 0, .slice none 0 0]) := Lib.hid (by rw [hW0]; simpa using Box.new (w.alloc (.cells #[.slice A0 n0 c0, .slice A1 n1 c1] 26)) 26 #[.slice none 0 0, .slice none 0 0])
  have HC := Lib.hid (checkLine A0 A1 n0 n1 c0 c1 d0 d1 W0 n l0 l1 m0 m1 (h0.below hb0))
  have H := Lib.hid (And.intro (And.intro l0 l1) (And.intro h0 h1))
  obtain ⟨r, hr⟩ : ∃ r, levF d0 d1 n v = r := ⟨_, rfl⟩
  rw [hr]
  have HR := Lib.hid hr
  have HW0 := Lib.hid hW0
  clear l0 l1 m0 m1 h0 h1 hW0 hr
  go_enter Try.func15, Try.ntmps15
  go_wp2_with fail
  rw [← HW0.out]
  refine HC.out.mono ?_
  rintro e w1 ⟨rfl, hb1⟩
  have hb := bt hb0 hb1
  have Y1 := Lib.hid (Y0.out.step hb1)
  have s0 := Y1.out.cell 0 rfl
  have s1 := Y1.out.cell 1 rfl
  have s0z := Y1.out.frozen 0
  have s1z := Y1.out.frozen 1
  by_cases hc : lineC d0 d1 n = 0
  · have hcb : (lineC d0 d1 n != 0) = false := by simp [hc]
    obtain ⟨hok, hln⟩ := lineC_zero hc
    obtain ⟨q0, q1, -⟩ := okIrq_len hok
    obtain rfl : n0 = 8 := by have := H.out.1.1; omega
    obtain rfl : n1 = 8 := by have := H.out.1.2; omega
    obtain ⟨k, rfl⟩ : ∃ k : Nat, n = k := ⟨n.toNat, by have := lvB_range hln; omega⟩
    have hk : k < 8 := by have := lvB_range hln; omega
    have HO := Lib.hid (controllerOf A0 A1 c0 c1 d0 d1 w1 q0 q1 (H.out.2.1.below hb) (H.out.2.2.below hb))
    have HLn := Lib.hid (And.intro q0 q1)
    have f0 := (X0.out.step hb1).cell 0 rfl
    have f1 := (X0.out.step hb1).cell 1 rfl
    clear HC hok hln X0 Y0 H HW0 q0 q1
    by_cases hv : lvB v = true
    · skip
      have HRz : Hid (r = ((d0.set k v), d1, 0)) := Lib.hid (by rw [← HR.out]; unfold levF; rw [if_pos hc, if_pos hv]; rfl)
      clear HR hc
      go_wp2_with (first | (go_at_call 32; refine (isLevel _ _).mono ?_; rintro e w' ⟨rfl, rfl⟩; rw [hv]))
      refine HO.out.mono ?_
      rintro e w2 ⟨rfl, hb2⟩
      have hb3 := bt hb hb2
      have Z0 : Hid (Box ((w2.alloc (.cells (ctlC zL zP).toArray 52)).setCells w2.heap.size 0 (ctlC d0 d1)) w2.heap.size 52 (ctlC d0 d1).toArray) := Lib.hid (box_put (Box.new w2 52 (ctlC zL zP).toArray) _ (by rw [ctlC_len, HLn.out.1, HLn.out.2]; rfl))
      have hct : ((w2.alloc (.cells (ctlC zL zP).toArray 52)).setCells w2.heap.size 0 (ctlC d0 d1)).cell? ⟨w2.heap.size, k, none⟩ = some (.int .i64 (d0.getD k 0)) := Z0.out.cell (k) (by simpa using ctlC_level k (show k < d0.length by rw [HLn.out.1]; exact hk))
      have hcz := Z0.out.frozen (k)
      have HT : Hid ((w2.alloc (.cells (ctlC zL zP).toArray 52)).there w2.heap.size 0 (ctlC d0 d1).toArray.size) := Lib.hid (by
        have := box_there (Box.new w2 52 (ctlC zL zP).toArray)
        rwa [show (ctlC zL zP).toArray.size = (ctlC d0 d1).toArray.size from by rw [List.size_toArray, List.size_toArray, ctlC_len, ctlC_len, HLn.out.1, HLn.out.2]; rfl] at this)
      have HS : Hid ((Try.prog.info? 52).map (·.size) = some (ctlC d0 d1).toArray.size) := Lib.hid (by rw [List.size_toArray, ctlC_len, HLn.out.1, HLn.out.2]; exact sizeCtl)
      have HOn := Lib.hid (all_oneCell_toArray (ctlC_one d0 d1))
      have Z1 : Hid (Box (((w2.alloc (.cells (ctlC zL zP).toArray 52)).setCells w2.heap.size 0 (ctlC d0 d1)).setCell ⟨w2.heap.size, k, none⟩ (.int .i64 v)) w2.heap.size 52 (ctlC (d0.set k v) d1).toArray) := Lib.hid (by
        have := Z0.out.set (k) (.int .i64 v)
        rwa [List.setIfInBounds_toArray, ctlC_setL k v (by rw [HLn.out.1]; exact hk)] at this)
      have HS2 : Hid ((Try.prog.info? 52).map (·.size) = some (ctlC (d0.set k v) d1).length) := Lib.hid (by rw [ctlC_len, List.length_set, HLn.out.1, HLn.out.2]; exact sizeCtl)
      have hb4 : Below w1.heap.size w1 (((w2.alloc (.cells (ctlC zL zP).toArray 52)).setCells w2.heap.size 0 (ctlC d0 d1)).setCell ⟨w2.heap.size, k, none⟩ (.int .i64 v)) := (below_setCellsN (by exact hb2.size) _ _ _ (bt hb2 (alloc_below _ _))).setCell (p := ⟨w2.heap.size, k, none⟩) (by exact hb2.size) _
      have HI := Lib.hid (controllerIrq (d0.set k v) d1 (((w2.alloc (.cells (ctlC zL zP).toArray 52)).setCells w2.heap.size 0 (ctlC d0 d1)).setCell ⟨w2.heap.size, k, none⟩ (.int .i64 v)) (by rw [List.length_set]; exact HLn.out.1) (by exact HLn.out.2))
      have HN2 : Hid ((d0.set k v).length = 8 ∧ d1.length = 8) := Lib.hid ⟨by rw [List.length_set]; exact HLn.out.1, by exact HLn.out.2⟩
      generalize hcs : ctlC d0 d1 = cs at Z0 hct hcz HT HS HOn Z1 hb4 HI
      generalize hcs2 : ctlC (d0.set k v) d1 = cs2 at Z1 HS2 HI
      have HRg := Lib.hid (box_range Z1.out)
      generalize d0.getD k 0 = old at hct
      generalize d0.set k v = new at HRz HI HN2
      have hki : (k : Int) < 8 := by omega
      clear hcs hcs2 Z0 Z1 s0 s1 s0z s1z f0 f1 HO
      go_wp2_with (first
        | (with_reducible refine wpList_alloc_at rfl 52 rfl (ctlC zL zP).toArray infoCtx w2.heap.size rfl ?_)
        | (with_reducible refine wpList_store_mid rfl 52 (.tmp 9) (.tmp 22) rfl w2.heap.size 0 cs.toArray rfl rfl HT.out HS.out HOn.out ?_)
        | (with_reducible refine wpList_load_mid rfl 52 (.tmp 9) rfl w2.heap.size 0 rfl cs2 _ HRg.out Try.underlying52 rfl HS2.out ?_))
      refine HI.out.mono ?_
      rintro e w6 ⟨B0, B1, g0, g1, rfl, HA, hb6⟩
      have hb7 := bt hb4 hb6
      have Y6 := Y1.out.step hb7
      have y0 := Y6.cell 0 rfl
      have y1 := Y6.cell 1 rfl
      have y0z := Y6.frozen 0
      have y1z := Y6.frozen 1
      have HY6 := Lib.hid Y6
      have HQ : Hid (w.heap.size ≤ w1.heap.size ∧ w1.heap.size ≤ (((w2.alloc (.cells (ctlC zL zP).toArray 52)).setCells w2.heap.size 0 cs).setCell ⟨w2.heap.size, k, none⟩ (.int .i64 v)).heap.size) := Lib.hid ⟨hb.size, hb4.size⟩
      clear Y6 HI hct hcz HT HS HOn HRg HS2
      go_wp2
      refine bodyPost_ret (v := .tuple #[.agg #[.slice B0 8 g0, .slice B1 8 g1], .int .i64 0]) (by simp [results, Try.results15, go_sem, y0, y1]) rfl ?_
      rw [HRz.out]
      refine ⟨B0, B1, g0, g1, ?_, Lib.hid ?_, below2 (bt hb hb7) (by omega) _ _⟩
      · show _ = Ending.returned (.tuple #[.agg #[.slice B0 new.length g0, .slice B1 d1.length g1], .int .i64 0])
        rw [HN2.out.1, HN2.out.2]
      · show OwnA _ _ _ [.slice B0 new.length g0, .slice B1 d1.length g1] [.I new, .B d1]
        rw [HN2.out.1, HN2.out.2]
        exact (HA.out.far2 HY6.out _ _).wide (Nat.le_trans HQ.out.1 HQ.out.2) (by rw [size2]; exact Nat.le_refl _)
    · have hv' : lvB v = false := by simpa using hv
      have HRz : Hid (r = ([], [], 19)) := Lib.hid (by rw [← HR.out]; unfold levF; rw [if_pos hc, if_neg hv])
      clear HR hv hc HO f0 f1
      go_wp2_with (first | (go_at_call 32; refine (isLevel _ _).mono ?_; rintro e w' ⟨rfl, rfl⟩; rw [hv']))
      refine bodyPost_ret (v := .tuple #[.agg #[.slice none 0 0, .slice none 0 0], .int .i64 19]) (by simp [results, Try.results15, go_sem, s0, s1]) rfl ?_
      rw [HRz.out]
      exact gives_none 19 (below2 hb (by omega) _ _)
  · have hcb : (lineC d0 d1 n != 0) = true := by simp [hc]
    have HRz : Hid (r = ([], [], lineC d0 d1 n)) := Lib.hid (by rw [← HR.out]; unfold levF; rw [if_neg hc])
    generalize lineC d0 d1 n = cd at hcb hc HRz
    clear HR HC X0 Y0 H HW0 hc
    go_wp2
    refine bodyPost_ret (v := .tuple #[.agg #[.slice none 0 0, .slice none 0 0], .int .i64 cd]) (by simp [results, Try.results15, go_sem, s0, s1]) rfl ?_
    rw [HRz.out]
    exact gives_none cd (below2 hb (by omega) _ _)

set_option maxRecDepth 100000 in
set_option maxHeartbeats 1000000 in
theorem implRaise (A0 A1 : Option Addr) (n0 n1 c0 c1 : Nat) (d0 : List Int) (d1 : List Bool) (w : World) (n : Int) (l0 : d0.length = n0) (l1 : d1.length = n1) (m0 : n0 ≤ maxLen) (m1 : n1 ≤ maxLen) (h0 : IntL w A0 d0) (h1 : BoolL w A1 d1) :
    Calls Try.prog 14 #[.agg #[.slice A0 n0 c0, .slice A1 n1 c1], .int .i64 n] w (GivesIrqCode (pendF d0 d1 n true) w) := by
  obtain ⟨W0, hW0⟩ : ∃ W0, W0 = ((w.alloc (.cells #[.slice A0 n0 c0, .slice A1 n1 c1] 26)).alloc (.cells #[.slice none 0 0, .slice none 0 0] 26)) := ⟨_, rfl⟩
  have hb0 : Below w.heap.size w W0 := by rw [hW0]; exact bt (alloc_below _ _) (alloc_below _ _)
  have Y0 : Hid (Box W0 (w.heap.size + 1) 26 #[.slice none 0 0, .slice none 0 0]) := Lib.hid (by rw [hW0]; simpa using Box.new (w.alloc (.cells #[.slice A0 n0 c0, .slice A1 n1 c1] 26)) 26 #[.slice none 0 0, .slice none 0 0])
  have HC := Lib.hid (withPending A0 A1 n0 n1 c0 c1 d0 d1 W0 n true l0 l1 m0 m1 (h0.below hb0) (h1.below hb0))
  have HW0 := Lib.hid hW0
  generalize pendF d0 d1 n true = r at HC
  clear l0 l1 m0 m1 h0 h1 hW0
  go_enter Try.func14, Try.ntmps14
  go_wp2_with fail
  rw [← HW0.out]
  refine HC.out.mono ?_
  rintro e w1 ⟨B0, B1, g0, g1, rfl, HA, hb1⟩
  have hb := bt hb0 hb1
  have Y1 := Y0.out.step hb1
  have s0 := Y1.cell 0 rfl
  have s1 := Y1.cell 1 rfl
  have s0z := Y1.frozen 0
  have s1z := Y1.frozen 1
  have HY1 := Lib.hid Y1
  clear Y1 HC
  go_wp2
  refine bodyPost_ret (v := .tuple #[.agg #[.slice B0 r.1.length g0, .slice B1 r.2.1.length g1], .int .i64 r.2.2]) (by simp [results, Try.results14, go_sem, s0, s1]) rfl ?_
  exact ⟨B0, B1, g0, g1, rfl, Lib.hid ((HA.out.far2 HY1.out _ _).wide hb0.size (by rw [size2]; exact Nat.le_refl _)), below2 hb (by omega) _ _⟩

set_option maxRecDepth 100000 in
set_option maxHeartbeats 1000000 in
theorem implAck (A0 A1 : Option Addr) (n0 n1 c0 c1 : Nat) (d0 : List Int) (d1 : List Bool) (w : World) (n : Int) (l0 : d0.length = n0) (l1 : d1.length = n1) (m0 : n0 ≤ maxLen) (m1 : n1 ≤ maxLen) (h0 : IntL w A0 d0) (h1 : BoolL w A1 d1) :
    Calls Try.prog 16 #[.agg #[.slice A0 n0 c0, .slice A1 n1 c1], .int .i64 n] w (GivesIrqCode (pendF d0 d1 n false) w) := by
  obtain ⟨W0, hW0⟩ : ∃ W0, W0 = ((w.alloc (.cells #[.slice A0 n0 c0, .slice A1 n1 c1] 26)).alloc (.cells #[.slice none 0 0, .slice none 0 0] 26)) := ⟨_, rfl⟩
  have hb0 : Below w.heap.size w W0 := by rw [hW0]; exact bt (alloc_below _ _) (alloc_below _ _)
  have Y0 : Hid (Box W0 (w.heap.size + 1) 26 #[.slice none 0 0, .slice none 0 0]) := Lib.hid (by rw [hW0]; simpa using Box.new (w.alloc (.cells #[.slice A0 n0 c0, .slice A1 n1 c1] 26)) 26 #[.slice none 0 0, .slice none 0 0])
  have HC := Lib.hid (withPending A0 A1 n0 n1 c0 c1 d0 d1 W0 n false l0 l1 m0 m1 (h0.below hb0) (h1.below hb0))
  have HW0 := Lib.hid hW0
  generalize pendF d0 d1 n false = r at HC
  clear l0 l1 m0 m1 h0 h1 hW0
  go_enter Try.func16, Try.ntmps16
  go_wp2_with fail
  rw [← HW0.out]
  refine HC.out.mono ?_
  rintro e w1 ⟨B0, B1, g0, g1, rfl, HA, hb1⟩
  have hb := bt hb0 hb1
  have Y1 := Y0.out.step hb1
  have s0 := Y1.cell 0 rfl
  have s1 := Y1.cell 1 rfl
  have s0z := Y1.frozen 0
  have s1z := Y1.frozen 1
  have HY1 := Lib.hid Y1
  clear Y1 HC
  go_wp2
  refine bodyPost_ret (v := .tuple #[.agg #[.slice B0 r.1.length g0, .slice B1 r.2.1.length g1], .int .i64 r.2.2]) (by simp [results, Try.results16, go_sem, s0, s1]) rfl ?_
  exact ⟨B0, B1, g0, g1, rfl, Lib.hid ((HA.out.far2 HY1.out _ _).wide hb0.size (by rw [size2]; exact Nat.le_refl _)), below2 hb (by omega) _ _⟩

set_option maxRecDepth 100000 in
set_option maxHeartbeats 1000000 in
theorem implNewIrq (w : World) : Calls Try.prog 18 #[] w (GivesIrq zL zP w) := by
  obtain ⟨W0, hW0⟩ : ∃ W0, W0 = (w.alloc (.cells #[.slice none 0 0, .slice none 0 0] 26)) := ⟨_, rfl⟩
  have hb0 : Below w.heap.size w W0 := by rw [hW0]; exact alloc_below _ _
  have Y0 : Hid (Box W0 w.heap.size 26 #[.slice none 0 0, .slice none 0 0]) := Lib.hid (by rw [hW0]; exact Box.new _ _ _)
  have HC := Lib.hid (show Calls Try.prog 39 #[.agg #[.int .i64 0, .int .i64 0, .int .i64 0, .int .i64 0, .int .i64 0, .int .i64 0, .int .i64 0, .int .i64 0, .bool false, .bool false, .bool false, .bool false, .bool false, .bool false, .bool false, .bool false]] W0 (GivesIrq zL zP W0) from controllerIrq zL zP W0 rfl rfl)
  have HW0 := Lib.hid hW0
  clear hW0
  go_enter Try.func18, Try.ntmps18
  go_wp2_with fail
  rw [← HW0.out]
  refine HC.out.mono ?_
  rintro e w1 ⟨B0, B1, g0, g1, rfl, HA, hb1⟩
  have hb := bt hb0 hb1
  have Y1 := Y0.out.step hb1
  have s0 := Y1.cell 0 rfl
  have s1 := Y1.cell 1 rfl
  have s0z := Y1.frozen 0
  have s1z := Y1.frozen 1
  have HY1 := Lib.hid Y1
  clear Y1 HC
  go_wp2
  refine bodyPost_ret (v := .agg #[.slice B0 8 g0, .slice B1 8 g1]) (by simp [results, Try.results18, go_sem, s0, s1]) rfl ?_
  exact ⟨B0, B1, g0, g1, rfl, Lib.hid ((HA.out.far2 HY1.out _ _).wide hb0.size (by rw [size2]; exact Nat.le_refl _)), below2 hb (by omega) _ _⟩
end Go.Proofs.Ytamfapmkdojhcaa

/- The selected line: the model's scan and the program's first maximum give the same. Plain facts on lists. -/
namespace Go.Proofs.Ytamfapmkdojhcaa

/-- The model's scan of the first lines. -/
def nextF (ls : List Int) (ps : List Bool) (a : Int) : Nat → Int
  | 0 => -1
  | k + 1 => if ps.getD k false = true ∧ a < ls.getD k 0 ∧ (nextF ls ps a k < 0 ∨ ls.getD (nextF ls ps a k).toNat 0 < ls.getD k 0) then (k : Int) else nextF ls ps a k
/-- The first greatest among the first. -/
def amaxF (zs : List Int) : Nat → Nat
  | 0 => 0
  | k + 1 => if zs.getD (amaxF zs k) 0 < zs.getD k 0 then k else amaxF zs k
/-- The levels of those that are pending, of the first j lines. -/
def reqT (ls : List Int) (ps : List Bool) (j : Nat) : List Int := (List.range 8).map fun i => if i < j ∧ ps.getD i false = true then ls.getD i 0 else 0
theorem reqT_len (ls : List Int) (ps : List Bool) (j : Nat) : (reqT ls ps j).length = 8 := by simp [reqT]
theorem reqT_at (ls : List Int) (ps : List Bool) (j i : Nat) (h : i < 8) : (reqT ls ps j).getD i 0 = if i < j ∧ ps.getD i false = true then ls.getD i 0 else 0 := by
  unfold reqT
  rw [List.getD_eq_getElem?_getD, List.getElem?_map, List.getElem?_range h]
  rfl
theorem reqT_zero (ls : List Int) (ps : List Bool) : reqT ls ps 0 = List.replicate 8 0 := by
  apply ext_getD 0 (by simp [reqT_len])
  intro i hi
  rw [reqT_len] at hi
  rw [reqT_at _ _ _ _ hi, if_neg (by omega), List.getD_eq_getElem?_getD, List.getElem?_replicate, if_pos hi]
  rfl
theorem reqT_next (ls : List Int) (ps : List Bool) (j : Nat) (hj : j < 8) (hp : ps.getD j false = true) : (reqT ls ps j).set j (ls.getD j 0) = reqT ls ps (j + 1) := by
  apply ext_getD 0 (by simp [reqT_len])
  intro i hi
  have hi' : i < 8 := by simpa [reqT_len] using hi
  rw [reqT_at _ _ _ _ hi']
  by_cases e : i = j
  · subst e
    rw [List.getD_eq_getElem?_getD, List.getElem?_set_self (by rw [reqT_len]; exact hj), if_pos ⟨by omega, hp⟩]
    rfl
  · rw [List.getD_eq_getElem?_getD, List.getElem?_set_ne (fun q => e q.symm), ← List.getD_eq_getElem?_getD, reqT_at _ _ _ _ hi']
    by_cases q : i < j
    · by_cases r : ps.getD i false = true
      · rw [if_pos ⟨q, r⟩, if_pos ⟨by omega, r⟩]
      · rw [if_neg (fun x => r x.2), if_neg (fun x => r x.2)]
    · rw [if_neg (fun x => q x.1), if_neg (fun x => by have := x.1; omega)]
theorem reqT_same (ls : List Int) (ps : List Bool) (j : Nat) (hp : ps.getD j false = false) : reqT ls ps (j + 1) = reqT ls ps j := by
  apply ext_getD 0 (by simp [reqT_len])
  intro i hi
  rw [reqT_len] at hi
  rw [reqT_at _ _ _ _ hi, reqT_at _ _ _ _ hi]
  by_cases r : ps.getD i false = true
  · by_cases e : i = j
    · subst e; rw [hp] at r; cases r
    · by_cases q : i < j
      · rw [if_pos ⟨by omega, r⟩, if_pos ⟨q, r⟩]
      · rw [if_neg (fun x => by have := x.1; omega), if_neg (fun x => q x.1)]
  · rw [if_neg (fun x => r x.2), if_neg (fun x => r x.2)]
theorem amaxF_lt (zs : List Int) : ∀ k, 0 < k → amaxF zs k < k
  | 0, h => by omega
  | k + 1, _ => by
    unfold amaxF
    split
    · omega
    · rcases Nat.eq_zero_or_pos k with rfl | hk
      · simp [amaxF]
      · have := amaxF_lt zs k hk; omega
theorem nextF_lt (ls : List Int) (ps : List Bool) (a : Int) : ∀ k, nextF ls ps a k = -1 ∨ ∃ m : Nat, nextF ls ps a k = m ∧ m < k
  | 0 => .inl rfl
  | k + 1 => by
    unfold nextF
    split
    · exact .inr ⟨k, rfl, by omega⟩
    · rcases nextF_lt ls ps a k with h | ⟨m, h, hm⟩
      · exact .inl h
      · exact .inr ⟨m, h, by omega⟩
/-- What the program answers. -/
def selF (ls : List Int) (ps : List Bool) (a : Int) : Int := if (reqT ls ps 8).getD (amaxF (reqT ls ps 8) 8) 0 ≤ a then -1 else (amaxF (reqT ls ps 8) 8 : Int)

section
variable {ls : List Int} {ps : List Bool} {a : Int}
/-- A level to be served: its line is pending. -/
theorem req_pos {i : Nat} (hi : i < 8) (ha : 0 ≤ a) (h : a < (reqT ls ps 8).getD i 0) : ps.getD i false = true ∧ (reqT ls ps 8).getD i 0 = ls.getD i 0 := by
  rw [reqT_at _ _ _ _ hi] at h ⊢
  by_cases q : ps.getD i false = true
  · rw [if_pos ⟨hi, q⟩]; exact ⟨q, rfl⟩
  · rw [if_neg (fun x => q x.2)] at h; omega
theorem req_le {i : Nat} (hi : i < 8) (hp : ps.getD i false = true) : (reqT ls ps 8).getD i 0 = ls.getD i 0 := by rw [reqT_at _ _ _ _ hi, if_pos ⟨hi, hp⟩]
theorem next_inv (ha : 0 ≤ a) : ∀ k, k ≤ 8 →
    (nextF ls ps a k = -1 ∧ ∀ i, i < k → (reqT ls ps 8).getD i 0 ≤ a) ∨ (nextF ls ps a k = (amaxF (reqT ls ps 8) k : Int) ∧ amaxF (reqT ls ps 8) k < k ∧ a < (reqT ls ps 8).getD (amaxF (reqT ls ps 8) k) 0)
  | 0, _ => .inl ⟨rfl, fun i h => by omega⟩
  | k + 1, hk => by
    have hk8 : k < 8 := by omega
    rcases next_inv ha k (by omega) with ⟨h1, h2⟩ | ⟨h1, h2, h3⟩
    · by_cases q : a < (reqT ls ps 8).getD k 0
      · obtain ⟨p, e⟩ := req_pos hk8 ha q
        right
        have hn : nextF ls ps a (k + 1) = k := by
          unfold nextF
          rw [if_pos ⟨p, by rw [← e]; exact q, .inl (by rw [h1]; omega)⟩]
        have hm : amaxF (reqT ls ps 8) (k + 1) = k := by
          unfold amaxF
          rcases Nat.eq_zero_or_pos k with rfl | hp
          · split <;> rfl
          · rw [if_pos (by have := h2 _ (amaxF_lt (reqT ls ps 8) k hp); omega)]
        rw [hn, hm]
        exact ⟨rfl, by omega, q⟩
      · left
        have hn : nextF ls ps a (k + 1) = -1 := by
          unfold nextF
          rw [if_neg (fun x => q (by rw [req_le hk8 x.1]; exact x.2.1))]
          exact h1
        refine ⟨hn, fun i hi => ?_⟩
        by_cases e : i = k
        · subst e; omega
        · exact h2 i (by omega)
    · right
      have hm8 : amaxF (reqT ls ps 8) k < 8 := by omega
      obtain ⟨pm, em⟩ := req_pos hm8 ha h3
      by_cases q : (reqT ls ps 8).getD (amaxF (reqT ls ps 8) k) 0 < (reqT ls ps 8).getD k 0
      · obtain ⟨p, e⟩ := req_pos hk8 ha (show a < (reqT ls ps 8).getD k 0 by omega)
        have hn : nextF ls ps a (k + 1) = k := by
          unfold nextF
          rw [if_pos ⟨p, by rw [← e]; omega, .inr (by rw [h1, Int.toNat_natCast, ← em, ← e]; exact q)⟩]
        have hm : amaxF (reqT ls ps 8) (k + 1) = k := by unfold amaxF; rw [if_pos q]
        rw [hn, hm]
        exact ⟨rfl, by omega, by omega⟩
      · have hn : nextF ls ps a (k + 1) = nextF ls ps a k := by
          conv => lhs; unfold nextF
          rw [if_neg (fun x => by
            rcases x.2.2 with y | y
            · rw [h1] at y; omega
            · rw [h1, Int.toNat_natCast, ← em, ← req_le hk8 x.1] at y; exact q y)]
        have hm : amaxF (reqT ls ps 8) (k + 1) = amaxF (reqT ls ps 8) k := by conv => lhs; unfold amaxF
                                                                              rw [if_neg q]
        rw [hn, hm]
        exact ⟨h1, by omega, h3⟩
theorem sel_next (ha : 0 ≤ a) : selF ls ps a = nextF ls ps a 8 := by
  unfold selF
  rcases next_inv (ls := ls) (ps := ps) ha 8 (Nat.le_refl _) with ⟨h1, h2⟩ | ⟨h1, h2, h3⟩
  · rw [if_pos (h2 _ (amaxF_lt _ 8 (by omega))), h1]
  · rw [if_neg (by omega), h1]

/-- What is said of the selected line. -/
theorem next_says : ∀ k, (nextF ls ps a k = -1 ∧ ∀ i, i < k → ¬ (ps.getD i false = true ∧ a < ls.getD i 0)) ∨
    ∃ m : Nat, nextF ls ps a k = m ∧ m < k ∧ ps.getD m false = true ∧ a < ls.getD m 0 ∧ (∀ i, i < k → ps.getD i false = true → ls.getD i 0 ≤ ls.getD m 0 ∨ ls.getD i 0 ≤ a) ∧ ∀ i, i < m → ps.getD i false = true → ls.getD i 0 < ls.getD m 0
  | 0 => .inl ⟨rfl, fun i h => by omega⟩
  | k + 1 => by
    rcases next_says k with ⟨h1, h2⟩ | ⟨m, h1, h2, h3, h4, h5, h6⟩
    · by_cases q : ps.getD k false = true ∧ a < ls.getD k 0
      · right
        refine ⟨k, ?_, by omega, q.1, q.2, fun i hi hp => ?_, fun i hi hp => ?_⟩
        · unfold nextF; rw [if_pos ⟨q.1, q.2, .inl (by rw [h1]; omega)⟩]
        · by_cases e : i = k
          · subst e; left; omega
          · right
            have := h2 i (by omega)
            apply Classical.byContradiction; intro c
            exact this ⟨hp, by omega⟩
        · have := h2 i (by omega)
          apply Classical.byContradiction; intro c
          exact this ⟨hp, by have := q.2; omega⟩
      · left
        refine ⟨?_, fun i hi => ?_⟩
        · unfold nextF; rw [if_neg (fun x => q ⟨x.1, x.2.1⟩)]; exact h1
        · by_cases e : i = k
          · subst e; exact q
          · exact h2 i (by omega)
    · right
      by_cases q : ps.getD k false = true ∧ a < ls.getD k 0 ∧ ls.getD m 0 < ls.getD k 0
      · refine ⟨k, ?_, by omega, q.1, q.2.1, fun i hi hp => ?_, fun i hi hp => ?_⟩
        · unfold nextF; rw [if_pos ⟨q.1, q.2.1, .inr (by rw [h1, Int.toNat_natCast]; exact q.2.2)⟩]
        · by_cases e : i = k
          · subst e; left; omega
          · rcases h5 i (by omega) hp with y | y
            · left; have := q.2.2; omega
            · right; exact y
        · rcases h5 i (by omega) hp with y | y
          · have := q.2.2; omega
          · have := q.2.1; omega
      · refine ⟨m, ?_, by omega, h3, h4, fun i hi hp => ?_, h6⟩
        · unfold nextF; rw [if_neg (fun x => q ⟨x.1, x.2.1, by
            rcases x.2.2 with y | y
            · rw [h1] at y; omega
            · rw [h1, Int.toNat_natCast] at y; exact y⟩)]; exact h1
        · by_cases e : i = k
          · subst e
            apply Classical.byContradiction; intro c
            exact q ⟨hp, by omega, by omega⟩
          · exact h5 i (by omega) hp
end
end Go.Proofs.Ytamfapmkdojhcaa

/- NextIrq on both sides. -/
namespace Go.Proofs.Ytamfapmkdojhcaa
open Go.RowKit

set_option maxRecDepth 100000 in
theorem szB1 : (Try.prog.info? 4).map (·.size) = some 1 := by kernel_rfl
set_option maxRecDepth 100000 in
theorem indexP (ps : List Bool) (hl : ps.length = 8) (j : Nat) (hj : j < 8) (w : World) : (Instr.index 50 (.agg (cellsB ps).toArray) (.int .i64 (j : Int))).run Try.prog w = .ok (.bool (ps.getD j false)) w := by
  obtain ⟨i, hi, hs⟩ := Option.map_eq_some_iff.1 szB1
  have hc : (cellsB ps)[j]? = some (.bool (ps.getD j false)) := by
    unfold cellsB
    rw [List.getElem?_map, List.getD_eq_getElem?_getD, List.getElem?_eq_getElem (by omega)]
    rfl
  simp [Instr.index, asIntOf, hj, sizeOf, typeInfo, hi, hs, part, isAgg, hc]
theorem row8_at {w : World} {b : Nat} {t : TypeId} {zs : List Int} (h : Box w b t (cellsI zs).toArray) (k : Nat) (hk : k < zs.length) : w.cell? ⟨b, k, none⟩ = some (.int .i64 (zs.getD k 0)) := Box.cell h k (by
  unfold cellsI
  rw [List.getElem?_toArray, List.getElem?_map, List.getD_eq_getElem?_getD, List.getElem?_eq_getElem hk]
  rfl)
theorem row8_set {w : World} {b : Nat} {t : TypeId} {zs : List Int} (h : Box w b t (cellsI zs).toArray) (k : Nat) (x : Int) : Box (w.setCell ⟨b, k, none⟩ (.int .i64 x)) b t (cellsI (zs.set k x)).toArray := by
  have := Box.set h k (.int .i64 x)
  rwa [List.setIfInBounds_toArray, show (cellsI zs).set k (.int .i64 x) = cellsI (zs.set k x) from by unfold cellsI; rw [List.map_set]] at this
set_option maxRecDepth 100000 in
theorem zero8 : (Try.prog.info? 49).map (fun i => (i.zero, i.size)) = some (some (.agg (cellsI zL).toArray), 8) := by kernel_rfl
set_option maxRecDepth 100000 in
theorem zero8x : ∃ i : TypeInfo, Try.prog.info? 49 = some i ∧ i.zero = some (.agg (cellsI zL).toArray) := by
  obtain ⟨i, hi, hzz⟩ := Option.map_eq_some_iff.1 zero8
  simp only [Prod.mk.injEq] at hzz
  exact ⟨i, hi, hzz.1⟩

set_option maxRecDepth 100000 in
set_option maxHeartbeats 4000000 in
theorem requests (d0 : List Int) (d1 : List Bool) (w : World) (l0 : d0.length = 8) (l1 : d1.length = 8) :
    Calls Try.prog 56 #[.agg (ctlC d0 d1).toArray] w fun e w' => e = .returned (.agg (cellsI (reqT d0 d1 8)).toArray) ∧ Below w.heap.size w w' := by
  obtain ⟨W0, hW0⟩ : ∃ W0, W0 = (((w.alloc (.cells (ctlC d0 d1).toArray 52)).alloc (.cells (cellsI zL).toArray 49)).alloc (.cells (cellsI zL).toArray 49)) := ⟨_, rfl⟩
  have hb0 : Below w.heap.size w W0 := by rw [hW0]; exact bt (bt (alloc_below _ _) (alloc_below _ _)) (alloc_below _ _)
  have X0 : Hid (Box W0 w.heap.size 52 (ctlC d0 d1).toArray) := Lib.hid (by rw [hW0]; exact ((Box.new _ _ _).alloc _).alloc _)
  have Y0 : Hid (Box W0 (w.heap.size + 1) 49 (cellsI zL).toArray) := Lib.hid (by rw [hW0]; have := (Box.new (w.alloc (.cells (ctlC d0 d1).toArray 52)) 49 (cellsI zL).toArray).alloc (.cells (cellsI zL).toArray 49); rw [World.size_alloc] at this; exact this)
  have Z0 : Hid (Box W0 (w.heap.size + 1 + 1) 49 (cellsI (reqT d0 d1 0)).toArray) := Lib.hid (by rw [hW0, reqT_zero]; have := Box.new ((w.alloc (.cells (ctlC d0 d1).toArray 52)).alloc (.cells (cellsI zL).toArray 49)) 49 (cellsI zL).toArray; rw [World.size_alloc, World.size_alloc] at this; exact this)
  have HRp : Hid (W0.rangeAt w.heap.size 8 (cellsB d1)) := Lib.hid (by
    obtain ⟨b, o, e, h⟩ := (box_pends X0.out l0).range (by omega)
    injection e with e; injection e with q1 q2; subst q1 q2
    exact h)
  have HZp : Hid ((Try.prog.info? 50).map (·.size) = some (cellsB d1).length) := Lib.hid (by rw [cellsB_len, l1]; exact size8B)
  have HIx := Lib.hid (fun j hj W => indexP d1 l1 j hj W)
  have HL := Lib.hid (And.intro l0 l1)
  have HIn := Lib.hid zero8x
  have HW0 := Lib.hid hW0
  obtain ⟨cs, hcs⟩ : ∃ cs, cs = ctlC d0 d1 := ⟨_, rfl⟩
  rw [← hcs] at HW0 X0 ⊢
  have HCs := Lib.hid hcs
  generalize hzc : (cellsI zL).toArray = zc at HW0 HIn Y0
  generalize cellsB d1 = cb at HRp HZp HIx
  clear hW0 l0 l1 hcs
  go_enter Try.func56, Try.ntmps56
  go_wp2_with (first
    | (with_reducible refine wpList_alloc_at rfl 49 rfl zc HIn.out (w.heap.size + 1 + 1) ((World.size_alloc _ _).trans (congrArg (· + 1) (World.size_alloc _ _))) ?_)
    | (with_reducible refine wpList_alloc_at rfl 49 rfl zc HIn.out (w.heap.size + 1) (World.size_alloc _ _) ?_)
    | (rw [← HW0.out]; with_reducible refine wpList_load_mid rfl 50 (.tmp 6) rfl w.heap.size 8 rfl cb _ HRp.out Try.underlying50 rfl HZp.out ?_))
  clear HRp HZp HW0 HIn
  go_loopw [8] (fun i wr => ∃ j : Nat, j ≤ 8 ∧ i = .int .i64 j ∧ Below w.heap.size w wr ∧ Hid (Box wr w.heap.size 52 cs.toArray) ∧ Hid (Box wr (w.heap.size + 1) 49 zc) ∧ Hid (Box wr (w.heap.size + 1 + 1) 49 (cellsI (reqT d0 d1 j)).toArray)) (fun i _ => 8 - (intOf i).toNat)
  case atStart => exact ⟨0, by omega, rfl, hb0, X0, Y0, Z0⟩
  case round =>
    clear hb0 X0 Y0 Z0
    obtain ⟨j, hj, rfl, hbw, X, Y, Z⟩ := hrel
    by_cases hlt : j < 8
    · have hi : (j : Int) < 8 := by omega
      have hix := HIx.out j hlt wr
      have HNx := Lib.hid (reqT_next d0 d1 j hlt)
      have HSm := Lib.hid (reqT_same d0 d1 j)
      have hlv : wr.cell? ⟨w.heap.size, j, none⟩ = some (.int .i64 (d0.getD j 0)) := X.out.cell j (by rw [HCs.out]; simpa using ctlC_level j (by rw [HL.out.1]; exact hlt))
      have hold := row8_at Z.out j (by rw [reqT_len]; exact hlt)
      have hfz := Z.out.frozen j
      have HZ2 := Lib.hid (row8_set Z.out j (d0.getD j 0))
      have HX2 := Lib.hid (X.out.far (p := ⟨w.heap.size + 1 + 1, j, none⟩) (by show w.heap.size ≠ w.heap.size + 1 + 1; omega) (.int .i64 (d0.getD j 0)))
      have HY2 := Lib.hid (Y.out.far (p := ⟨w.heap.size + 1 + 1, j, none⟩) (by show w.heap.size + 1 ≠ w.heap.size + 1 + 1; omega) (.int .i64 (d0.getD j 0)))
      have hb2 : Below w.heap.size w (wr.setCell ⟨w.heap.size + 1 + 1, j, none⟩ (.int .i64 (d0.getD j 0))) := hbw.setCell (p := ⟨w.heap.size + 1 + 1, j, none⟩) (by show w.heap.size ≤ w.heap.size + 1 + 1; omega) _
      generalize (reqT d0 d1 j).getD j 0 = old at hold
      generalize d0.getD j 0 = x at hlv HZ2 HX2 HY2 hb2 HNx
      generalize d1.getD j false = q at hix HNx HSm
      have HZ := Lib.hid Z.out
      clear Z
      cases q
      · go_wp2
        go_roundw
        case rel => exact ⟨j + 1, by omega, by go_num, hbw, X, Y, Lib.hid (by rw [HSm.out rfl]; exact HZ.out)⟩
        case measure => simp [intOf]; omega
      · go_wp2
        go_roundw
        case rel => exact ⟨j + 1, by omega, by go_num, hb2, HX2, HY2, Lib.hid (by rw [← HNx.out rfl]; exact HZ2.out)⟩
        case measure => simp [intOf]; omega
    · obtain rfl : j = 8 := by omega
      have HRg := Lib.hid (box_range Z.out)
      have HZs : Hid ((Try.prog.info? 49).map (·.size) = some (cellsI (reqT d0 d1 8)).length) := Lib.hid (by rw [cellsI_len, reqT_len]; exact size8I)
      have HZs2 : Hid ((Try.prog.info? 49).map (·.size) = some (cellsI (reqT d0 d1 8)).toArray.size) := Lib.hid (by rw [List.size_toArray]; exact HZs.out)
      have hzs : zc.size = 8 := by rw [← hzc]; rfl
      have HTh : Hid (wr.there (w.heap.size + 1) 0 (cellsI (reqT d0 d1 8)).toArray.size) := Lib.hid (by
        have := box_there Y.out
        rwa [hzs, ← (show (cellsI (reqT d0 d1 8)).toArray.size = 8 from by rw [List.size_toArray, cellsI_len, reqT_len])] at this)
      have HOn := Lib.hid (all_oneCell_toArray (cellsI_one8 (reqT d0 d1 8)))
      have HLd := Lib.hid (run_loadVar_mid (P := Try.prog) (wr.setCells (w.heap.size + 1) 0 (cellsI (reqT d0 d1 8))) (w.heap.size + 1) 0 49 (cellsI (reqT d0 d1 8)) _ (box_range (box_put Y.out _ (by rw [hzs, cellsI_len, reqT_len]))) Try.underlying49 rfl HZs.out)
      generalize hcr : cellsI (reqT d0 d1 8) = cr at HRg HZs HZs2 HTh HOn HLd
      have HCr := Lib.hid hcr
      clear hzs Y Z X HCs HL HIx hcr
      go_wp2_with (first
        | (with_reducible refine wpList_load_mid rfl 49 (.tmp 3) rfl (w.heap.size + 1 + 1) 0 rfl cr _ HRg.out Try.underlying49 rfl HZs.out ?_)
        | (with_reducible refine wpList_store_mid rfl 49 (.tmp 2) (.tmp 20) rfl (w.heap.size + 1) 0 cr.toArray rfl rfl HTh.out HZs2.out HOn.out ?_))
      refine bodyPost_ret (v := .agg cr.toArray) (results_cellC Try.results56 (by rfl) HLd.out) rfl ?_
      exact ⟨by rw [HCr.out], below_setCellsC hbw (by omega) 0 cr⟩

set_option maxRecDepth 100000 in
set_option maxHeartbeats 1000000 in
theorem firstMaximum (A : Option Addr) (n c : Nat) (zs : List Int) (w : World) (hl : zs.length = n) (hp : 0 < n) (hn : n ≤ maxLen) (h : IntL w A zs) :
    Calls Try.prog 57 #[.slice A n c] w fun e w' => e = .returned (.int .i64 (amaxF zs n : Int)) ∧ w = w' := by
  unfold maxLen at hn
  have HL := Lib.hid hl
  have H := Lib.hid h
  clear hl h
  go_enter Try.func57, Try.ntmps57
  go_wp2
  go_loop [8, 3] (fun i b => ∃ k m : Nat, k ≤ n ∧ m < n ∧ i = .int .i64 k ∧ b = .int .i64 m ∧ Hid (m = amaxF zs k)) (fun i _ => n - (intOf i).toNat)
  case atStart => exact ⟨0, 0, Nat.zero_le _, hp, rfl, rfl, Lib.hid rfl⟩
  case round =>
    obtain ⟨k, m, hk, hm, rfl, rfl, HM⟩ := hrel
    by_cases hlt : k < n
    · obtain ⟨b, off, rfl, hc⟩ := H.out k (by rw [HL.out]; exact hlt)
      obtain ⟨b', off', e', hc'⟩ := H.out m (by rw [HL.out]; exact hm)
      injection e' with e'; injection e' with q1 q2; subst q1 q2
      have HS : Hid (amaxF zs (k + 1) = if zs.getD m 0 < zs.getD k 0 then k else m) := Lib.hid (by rw [HM.out]; rfl)
      generalize zs.getD k 0 = x at hc HS
      generalize zs.getD m 0 = y at hc' HS
      have hi : (k : Int) < (n : Int) := by omega
      have hi2 : (m : Int) < (n : Int) := by omega
      by_cases hE : y < x
      · go_wp2
        go_round
        case rel => exact ⟨k + 1, k, by omega, by omega, by go_num, rfl, Lib.hid (by rw [HS.out, if_pos hE])⟩
        case measure => simp [intOf]; omega
      · go_wp2
        go_round
        case rel => exact ⟨k + 1, m, by omega, by omega, by go_num, rfl, Lib.hid (by rw [HS.out, if_neg hE])⟩
        case measure => simp [intOf]; omega
    · obtain rfl : k = n := by omega
      go_wp2
      go_ret
      exact ⟨ret_int (by rw [HM.out]), rfl⟩

set_option maxRecDepth 100000 in
set_option maxHeartbeats 4000000 in
theorem controllerNext (d0 : List Int) (d1 : List Bool) (a : Int) (w : World) (l0 : d0.length = 8) (l1 : d1.length = 8) :
    Calls Try.prog 34 #[.agg (ctlC d0 d1).toArray, .int .i64 a] w fun e w' => e = .returned (.int .i64 (selF d0 d1 a)) ∧ Below w.heap.size w w' := by
  obtain ⟨W0, hW0⟩ : ∃ W0, W0 = (w.alloc (.cells (ctlC d0 d1).toArray 52)) := ⟨_, rfl⟩
  have hb0 : Below w.heap.size w W0 := by rw [hW0]; exact alloc_below _ _
  have X0 : Box W0 w.heap.size 52 (ctlC d0 d1).toArray := by rw [hW0]; exact Box.new _ _ _
  have HRg := Lib.hid (box_range X0)
  have HZs : Hid ((Try.prog.info? 52).map (·.size) = some (ctlC d0 d1).length) := Lib.hid (by rw [ctlC_len, l0, l1]; exact sizeCtl)
  have HQ := Lib.hid (requests d0 d1 W0 l0 l1)
  have HSl := Lib.hid (show selF d0 d1 a = if (reqT d0 d1 8).getD (amaxF (reqT d0 d1 8) 8) 0 ≤ a then -1 else (amaxF (reqT d0 d1 8) 8 : Int) from rfl)
  have HLn := Lib.hid (reqT_len d0 d1 8)
  generalize selF d0 d1 a = sv at HSl ⊢
  generalize reqT d0 d1 8 = zs at HQ HSl HLn
  have HW0 := Lib.hid hW0
  generalize ctlC d0 d1 = cs at HRg HZs HQ HW0
  clear hW0 X0 l0 l1
  go_enter Try.func34, Try.ntmps34
  go_wp2_with (first
    | (rw [← HW0.out]; with_reducible refine wpList_load_mid rfl 52 (.tmp 2) rfl w.heap.size 0 rfl cs _ HRg.out Try.underlying52 rfl HZs.out ?_))
  refine HQ.out.mono ?_
  rintro e w1 ⟨rfl, hb1⟩
  have hb := bt hb0 hb1
  have Z0 : Box ((w1.alloc (.cells (cellsI zL).toArray 49)).setCells w1.heap.size 0 (cellsI zs)) w1.heap.size 49 (cellsI zs).toArray := box_put (Box.new w1 49 (cellsI zL).toArray) _ (by rw [cellsI_len, HLn.out]; rfl)
  have HT : Hid ((w1.alloc (.cells (cellsI zL).toArray 49)).there w1.heap.size 0 (cellsI zs).toArray.size) := Lib.hid (by
    have := box_there (Box.new w1 49 (cellsI zL).toArray)
    rwa [show (cellsI zL).toArray.size = (cellsI zs).toArray.size from by rw [List.size_toArray, List.size_toArray, cellsI_len, cellsI_len, HLn.out]; rfl] at this)
  have HS : Hid ((Try.prog.info? 49).map (·.size) = some (cellsI zs).toArray.size) := Lib.hid (by rw [List.size_toArray, cellsI_len, HLn.out]; exact size8I)
  have HOn := Lib.hid (all_oneCell_toArray (cellsI_one8 zs))
  have HF := Lib.hid (firstMaximum (some ⟨w1.heap.size, 0, none⟩) 8 8 zs _ HLn.out (by omega) (by unfold maxLen; omega) (fun k hk => ⟨w1.heap.size, 0, rfl, by rw [Nat.zero_add]; exact row8_at Z0 k hk⟩))
  have hb2 : Below w.heap.size w ((w1.alloc (.cells (cellsI zL).toArray 49)).setCells w1.heap.size 0 (cellsI zs)) := below_setCellsN hb.size _ _ _ (bt hb (alloc_below _ _))
  have hm8 := amaxF_lt zs 8 (by omega)
  have hat := row8_at Z0 (amaxF zs 8) (by rw [HLn.out]; exact hm8)
  generalize amaxF zs 8 = m at HF hm8 hat HSl
  generalize zs.getD m 0 = x at hat HSl
  generalize cellsI zs = cz at HT HS HOn hb2 hat HF
  have HIn := Lib.hid zero8x
  generalize (cellsI zL).toArray = zc at HT HF hb2 hat HIn
  have hmi : (m : Int) < 8 := by omega
  clear Z0 HQ hb0 HRg HZs HW0
  by_cases hx : x ≤ a
  · have HE : Hid (sv = -1) := Lib.hid (by rw [HSl.out, if_pos hx])
    go_wp2_with (first
      | (with_reducible refine wpList_alloc_at rfl 49 rfl zc HIn.out w1.heap.size rfl ?_)
      | (with_reducible refine wpList_store_mid rfl 49 (.tmp 5) (.tmp 8) rfl w1.heap.size 0 cz.toArray rfl rfl HT.out HS.out HOn.out ?_)
      | (go_at_call 57; refine HF.out.mono ?_; rintro e w' ⟨rfl, rfl⟩))
    go_ret
    exact ⟨ret_int HE.out.symm, hb2⟩
  · have HE : Hid (sv = m) := Lib.hid (by rw [HSl.out, if_neg hx])
    go_wp2_with (first
      | (with_reducible refine wpList_alloc_at rfl 49 rfl zc HIn.out w1.heap.size rfl ?_)
      | (with_reducible refine wpList_store_mid rfl 49 (.tmp 5) (.tmp 8) rfl w1.heap.size 0 cz.toArray rfl rfl HT.out HS.out HOn.out ?_)
      | (go_at_call 57; refine HF.out.mono ?_; rintro e w' ⟨rfl, rfl⟩))
    go_ret
    exact ⟨ret_int HE.out.symm, hb2⟩

/-- What NextIrq answers. -/
def nxtF (ls : List Int) (ps : List Bool) (a : Int) : Int × Int := if okIrq ls ps = true then (if lvB a = true then (nextF ls ps a 8, 0) else (0, 19)) else (0, 1)

section
variable (A0 A1 : Option Addr) (n0 n1 c0 c1 : Nat) (d0 : List Int) (d1 : List Bool) (w : World)
set_option maxRecDepth 100000 in
set_option maxHeartbeats 2000000 in
theorem implNextIrq (a : Int) (l0 : d0.length = n0) (l1 : d1.length = n1) (m0 : n0 ≤ maxLen) (m1 : n1 ≤ maxLen) (h0 : IntL w A0 d0) (h1 : BoolL w A1 d1) :
    Calls Try.prog 12 #[.agg #[.slice A0 n0 c0, .slice A1 n1 c1], .int .i64 a] w fun e w' => e = .returned (.tuple #[.int .i64 (nxtF d0 d1 a).1, .int .i64 (nxtF d0 d1 a).2]) ∧ Below w.heap.size w w' := by
  have hb0 := alloc_below w (.cells #[.slice A0 n0 c0, .slice A1 n1 c1] 26)
  have X0 := Lib.hid (Box.new w 26 #[.slice A0 n0 c0, .slice A1 n1 c1])
  have HV := Lib.hid (irqValid A0 A1 n0 n1 c0 c1 d0 d1 _ l0 l1 m0 m1 (h0.below hb0))
  have H := Lib.hid (And.intro (And.intro l0 l1) (And.intro h0 h1))
  obtain ⟨r, hr⟩ : ∃ r, nxtF d0 d1 a = r := ⟨_, rfl⟩
  rw [hr]
  have HR := Lib.hid hr
  clear l0 l1 m0 m1 h0 h1 hr
  go_enter Try.func12, Try.ntmps12
  go_wp2_with fail
  refine HV.out.mono ?_
  rintro e w1 ⟨rfl, hb1⟩
  have hb := bt hb0 hb1
  by_cases hok : okIrq d0 d1 = true
  · by_cases ha : lvB a = true
    · obtain ⟨q0, q1, -⟩ := okIrq_len hok
      obtain rfl : n0 = 8 := by have := H.out.1.1; omega
      obtain rfl : n1 = 8 := by have := H.out.1.2; omega
      have HO := Lib.hid (controllerOf A0 A1 c0 c1 d0 d1 w1 q0 q1 (H.out.2.1.below hb) (H.out.2.2.below hb))
      have HN := Lib.hid (fun W => controllerNext d0 d1 a W q0 q1)
      have HRz : Hid (r = (selF d0 d1 a, 0)) := Lib.hid (by rw [← HR.out, sel_next (lvB_range ha).1]; unfold nxtF; rw [hok, ha]; rfl)
      generalize selF d0 d1 a = z at HN HRz
      rw [hok]
      have f0 := (X0.out.step hb1).cell 0 rfl
      have f1 := (X0.out.step hb1).cell 1 rfl
      clear q0 q1 hok H HR
      go_wp2_with (first | (go_at_call 32; refine (isLevel _ _).mono ?_; rintro e w' ⟨rfl, rfl⟩; rw [ha]))
      refine HO.out.mono ?_
      rintro e w2 ⟨rfl, hb2⟩
      clear f0 f1
      go_wp2_with fail
      refine (HN.out _).mono ?_
      rintro e w3 ⟨rfl, hb3⟩
      go_wp2
      refine bodyPost_ret (v := .tuple #[.int .i64 z, .int .i64 0]) (by simp [results, Try.results12, go_sem]) rfl ?_
      exact ⟨by rw [HRz.out], bt (bt hb hb2) hb3⟩
    · have ha' : lvB a = false := by simpa using ha
      have HRz : Hid (r = (0, 19)) := Lib.hid (by rw [← HR.out]; unfold nxtF; rw [hok, ha']; rfl)
      rw [hok]
      clear ha hok H HR
      go_wp2_with (first | (go_at_call 32; refine (isLevel _ _).mono ?_; rintro e w' ⟨rfl, rfl⟩; rw [ha']))
      refine bodyPost_ret (v := .tuple #[.int .i64 0, .int .i64 19]) (by simp [results, Try.results12, go_sem]) rfl ?_
      exact ⟨by rw [HRz.out], hb⟩
  · have hok' : okIrq d0 d1 = false := by simpa using hok
    have HRz : Hid (r = (0, 1)) := Lib.hid (by rw [← HR.out]; unfold nxtF; rw [hok']; rfl)
    rw [hok']
    clear hok H HR
    go_wp2
    refine bodyPost_ret (v := .tuple #[.int .i64 0, .int .i64 1]) (by simp [results, Try.results12, go_sem]) rfl ?_
    exact ⟨by rw [HRz.out], hb⟩

set_option maxRecDepth 100000 in
set_option maxHeartbeats 4000000 in
theorem l06Next (a : Int) (l0 : d0.length = 8) (l1 : d1.length = 8) (h0 : IntL w A0 d0) (h1 : BoolL w A1 d1) :
    Calls Try.prog 36 #[.agg #[.slice A0 8 c0, .slice A1 8 c1], .int .i64 a] w fun e w' => e = .returned (.int .i64 (nextF d0 d1 a 8)) ∧ Below w.heap.size w w' := by
  obtain ⟨W0, hW0⟩ : ∃ W0, W0 = (w.alloc (.cells #[.slice A0 8 c0, .slice A1 8 c1] 26)) := ⟨_, rfl⟩
  have hb0 : Below w.heap.size w W0 := by rw [hW0]; exact alloc_below _ _
  have X0 : Hid (Box W0 w.heap.size 26 #[.slice A0 8 c0, .slice A1 8 c1]) := Lib.hid (by rw [hW0]; exact Box.new _ _ _)
  have HL := Lib.hid (And.intro l0 l1)
  have H := Lib.hid (And.intro h0 h1)
  have HW0 := Lib.hid hW0
  clear l0 l1 h0 h1 hW0
  go_enter Try.func36, Try.ntmps36
  go_wp2
  rw [← HW0.out]
  clear HW0
  go_loopw [6, 5] (fun i b wr => ∃ k : Nat, k ≤ 8 ∧ i = .int .i64 k ∧ b = .int .i64 (nextF d0 d1 a k) ∧ Below w.heap.size w wr ∧ Hid (Box wr w.heap.size 26 #[.slice A0 8 c0, .slice A1 8 c1])) (fun i _ _ => 8 - (intOf i).toNat)
  case atStart => exact ⟨0, Nat.zero_le _, rfl, rfl, hb0, X0⟩
  case round =>
    clear hb0 X0
    obtain ⟨k, hk, rfl, rfl, hbw, X⟩ := hrel
    by_cases hlt : k < 8
    · obtain ⟨b, off, rfl, hc⟩ := (H.out.1.below hbw) k (by rw [HL.out.1]; exact hlt)
      obtain ⟨b', off', rfl, hp⟩ := (H.out.2.below hbw) k (by rw [HL.out.2]; exact hlt)
      have HS : Hid (nextF d0 d1 a (k + 1) = if d1.getD k false = true ∧ a < d0.getD k 0 ∧ (nextF d0 d1 a k < 0 ∨ d0.getD (nextF d0 d1 a k).toNat 0 < d0.getD k 0) then (k : Int) else nextF d0 d1 a k) := Lib.hid rfl
      have hcs : nextF d0 d1 a k = -1 ∨ ∃ m : Nat, nextF d0 d1 a k = m ∧ m < k := nextF_lt d0 d1 a k
      have hi : (k : Int) < 8 := by omega
      have x0 := X.out.cell 0 rfl
      have x1 := X.out.cell 1 rfl
      generalize nextF d0 d1 a k = best at HS hcs
      generalize d0.getD k 0 = x at hc HS
      generalize d1.getD k false = q at hp HS
      cases q
      · have HE : Hid (nextF d0 d1 a (k + 1) = best) := Lib.hid (by rw [HS.out]; simp)
        clear hcs HS
        go_wp2
        go_quiet (fail)
        go_wp2
        go_roundw
        case rel => exact ⟨k + 1, by omega, by go_num, by rw [HE.out], below_drewN hbw _, Lib.hid X.out⟩
        case measure => simp [intOf]; omega
      · by_cases hx : a < x
        · have hx' : decide (a < x) = true := by simpa using hx
          rcases hcs with hb | ⟨m, hb, hm⟩
          · subst hb
            have HE : Hid (nextF d0 d1 a (k + 1) = k) := Lib.hid (by rw [HS.out, if_pos ⟨rfl, hx, .inl (by omega)⟩])
            clear HS
            go_wp2
            go_quiet (fail)
            go_wp2
            go_roundw
            case rel => exact ⟨k + 1, by omega, by go_num, by rw [HE.out], below_drewN hbw _, Lib.hid X.out⟩
            case measure => simp [intOf]; omega
          · subst hb
            obtain ⟨b2, off2, e2, hc2⟩ := (H.out.1.below hbw) m (by rw [HL.out.1]; omega)
            injection e2 with e2; injection e2 with r1 r2; subst r1 r2
            rw [Int.toNat_natCast] at HS
            generalize d0.getD m 0 = y at hc2 HS
            have hmn : ¬ ((m : Int) < 0) := by omega
            have hm8 : (m : Int) < 8 := by omega
            by_cases hy : y < x
            · have hy' : decide (y < x) = true := by simpa using hy
              have HE : Hid (nextF d0 d1 a (k + 1) = k) := Lib.hid (by rw [HS.out, if_pos ⟨rfl, hx, .inr hy⟩])
              clear HS
              go_wp2
              go_quiet (fail)
              go_wp2
              go_roundw
              case rel => exact ⟨k + 1, by omega, by go_num, by rw [HE.out], below_drewN hbw _, Lib.hid X.out⟩
              case measure => simp [intOf]; omega
            · have hy' : decide (y < x) = false := by simpa using hy
              have HE : Hid (nextF d0 d1 a (k + 1) = m) := Lib.hid (by rw [HS.out, if_neg (fun z => by rcases z.2.2 with z | z <;> omega)])
              clear HS
              go_wp2
              go_quiet (fail)
              go_wp2
              go_roundw
              case rel => exact ⟨k + 1, by omega, by go_num, by rw [HE.out], below_drewN hbw _, Lib.hid X.out⟩
              case measure => simp [intOf]; omega
        · have hx' : decide (a < x) = false := by simpa using hx
          have HE : Hid (nextF d0 d1 a (k + 1) = best) := Lib.hid (by rw [HS.out, if_neg (fun z => hx z.2.1)])
          clear hcs HS
          go_wp2
          go_quiet (fail)
          go_wp2
          go_roundw
          case rel => exact ⟨k + 1, by omega, by go_num, by rw [HE.out], below_drewN hbw _, Lib.hid X.out⟩
          case measure => simp [intOf]; omega
    · obtain rfl : k = 8 := by omega
      go_wp2
      go_ret
      exact ⟨rfl, hbw⟩

set_option maxRecDepth 100000 in
set_option maxHeartbeats 2000000 in
theorem specNextIrq (a : Int) (l0 : d0.length = n0) (l1 : d1.length = n1) (m0 : n0 ≤ maxLen) (m1 : n1 ≤ maxLen) (h0 : IntL w A0 d0) (h1 : BoolL w A1 d1) :
    Calls Try.prog 13 #[.agg #[.slice A0 n0 c0, .slice A1 n1 c1], .int .i64 a] w fun e w' => e = .returned (.tuple #[.int .i64 (nxtF d0 d1 a).1, .int .i64 (nxtF d0 d1 a).2]) ∧ Below w.heap.size w w' := by
  have hb0 := alloc_below w (.cells #[.slice A0 n0 c0, .slice A1 n1 c1] 26)
  have X0 := Lib.hid (Box.new w 26 #[.slice A0 n0 c0, .slice A1 n1 c1])
  have HV := Lib.hid (specIrqOK A0 A1 n0 n1 c0 c1 d0 d1 _ l0 l1 m0 m1 (h0.below hb0))
  have H := Lib.hid (And.intro (And.intro l0 l1) (And.intro h0 h1))
  obtain ⟨r, hr⟩ : ∃ r, nxtF d0 d1 a = r := ⟨_, rfl⟩
  rw [hr]
  have HR := Lib.hid hr
  clear l0 l1 m0 m1 h0 h1 hr
  go_enter Try.func13, Try.ntmps13
  go_wp2_with fail
  refine HV.out.mono ?_
  rintro e w1 ⟨rfl, hb1⟩
  have hb := bt hb0 hb1
  by_cases hok : okIrq d0 d1 = true
  · by_cases ha : lvB a = true
    · obtain ⟨q0, q1, -⟩ := okIrq_len hok
      obtain rfl : n0 = 8 := by have := H.out.1.1; omega
      obtain rfl : n1 = 8 := by have := H.out.1.2; omega
      have HN := Lib.hid (l06Next A0 A1 c0 c1 d0 d1 w1 a q0 q1 (H.out.2.1.below hb) (H.out.2.2.below hb))
      have HRz : Hid (r = (nextF d0 d1 a 8, 0)) := Lib.hid (by rw [← HR.out]; unfold nxtF; rw [hok, ha]; rfl)
      generalize nextF d0 d1 a 8 = z at HN HRz
      rw [hok]
      have f0 := (X0.out.step hb1).cell 0 rfl
      have f1 := (X0.out.step hb1).cell 1 rfl
      clear q0 q1 hok H HR
      go_wp2_with (first | (go_at_call 35; refine (l01In7 _ _).mono ?_; rintro e w' ⟨rfl, rfl⟩; rw [ha]))
      refine HN.out.mono ?_
      rintro e w3 ⟨rfl, hb3⟩
      go_wp2
      refine bodyPost_ret (v := .tuple #[.int .i64 z, .int .i64 0]) (by simp [results, Try.results13, go_sem]) rfl ?_
      exact ⟨by rw [HRz.out], bt hb hb3⟩
    · have ha' : lvB a = false := by simpa using ha
      have HRz : Hid (r = (0, 19)) := Lib.hid (by rw [← HR.out]; unfold nxtF; rw [hok, ha']; rfl)
      rw [hok]
      clear ha hok H HR
      go_wp2_with (first | (go_at_call 35; refine (l01In7 _ _).mono ?_; rintro e w' ⟨rfl, rfl⟩; rw [ha']))
      refine bodyPost_ret (v := .tuple #[.int .i64 0, .int .i64 19]) (by simp [results, Try.results13, go_sem]) rfl ?_
      exact ⟨by rw [HRz.out], hb⟩
  · have hok' : okIrq d0 d1 = false := by simpa using hok
    have HRz : Hid (r = (0, 1)) := Lib.hid (by rw [← HR.out]; unfold nxtF; rw [hok']; rfl)
    rw [hok']
    clear hok H HR
    go_wp2
    refine bodyPost_ret (v := .tuple #[.int .i64 0, .int .i64 1]) (by simp [results, Try.results13, go_sem]) rfl ?_
    exact ⟨by rw [HRz.out], hb⟩
end
end Go.Proofs.Ytamfapmkdojhcaa

/- The model's changes of a controller: l06Own, l06Set, SetLevel, Raise, Ack; NewIrq. Written by gen_irqspec.py. -/
namespace Go.Proofs.Ytamfapmkdojhcaa
open Go.RowKit

theorem wp_app_fresh6 {P : Program} {o : Oper} {a : Act} {w : World} {K : Act → World → Prop} {Q : Exit → Act → World → Prop}
    (s x : Operand) (t : TypeId) (hop : o.op = Op.call { callee := Callee.builtin Builtin.append, args := #[s, x], argTypes := #[t, t] })
    (e : TypeId) (z : Value) (size bytes : Nat) (ht : P.underlying t = some (.slice e)) (hi : ∃ i : TypeInfo, P.info? e = some i ∧ i.zero = some z ∧ i.size = size ∧ i.bytes = bytes) (hzs : z.cells.size = size) (hsz : 0 < size) (b : Addr) (hs : a.eval s = .slice (some b) 0 0)
    (A : Option Addr) (m c : Nat) (hm : 0 < m) (news : List Value) (hx : a.eval x = .slice A m c) (hl : news.length = m * size) (hsrc : ∃ ad, A = some ad ∧ ∀ j u, news[j]? = some u → w.cell? (ad.add j) = some u)
    (h63 : m ≤ maxLen) (hbytes : m * bytes ≤ 140737488355328)
    (h : ∀ A' cap w', Below w.heap.size w w' → Hid (w'.ownsRow w.heap.size e size (.slice A' m cap) m news) → K (a.put o.dst (.slice A' m cap)) w') : Oper.wp P o a w K Q := by
  obtain ⟨i, hi, hz, hsize, hby⟩ := hi
  obtain ⟨A', cap, w', hr, h2, h3⟩ := run_app_fresh (P := P) w t o.type e i z size bytes ht hi hz hsize hby hzs hsz b A m c hm news hl hsrc h63 hbytes
  unfold Oper.wp execOp
  simp only [hop, resolve, invoke, builtin, Sem.run_bind, Sem.run_pure, Result.andThen_ok, List.map_toArray, List.map_cons, List.map_nil, hs, hx, hr]
  exact h A' cap w' h2 (Lib.hid h3)
theorem OwnI.setRowB {w : World} {lo hi : Nat} {A : Option Addr} {zs : List Int} (h : OwnI w lo hi A zs) {b m : Nat} {f : Nat → Value} (hr : w.rowIs b 4 m f) (k : Nat) (u : Value) : OwnI (w.setCell ⟨b, k, none⟩ u) lo hi A zs := by
  rcases h with e | ⟨b', m', f', e, p1, p2, hm, hr', hf⟩
  · exact .inl e
  · exact .inr ⟨b', m', f', e, p1, p2, hm, hr'.setOther (a := ⟨b, k, none⟩) (by exact row_ne hr' hr (by decide)) u, hf⟩
theorem OwnB.setRowI {w : World} {lo hi : Nat} {A : Option Addr} {zs : List Bool} (h : OwnB w lo hi A zs) {b m : Nat} {f : Nat → Value} (hr : w.rowIs b 3 m f) (k : Nat) (u : Value) : OwnB (w.setCell ⟨b, k, none⟩ u) lo hi A zs := by
  rcases h with e | ⟨b', m', f', e, p1, p2, hm, hr', hf⟩
  · exact .inl e
  · exact .inr ⟨b', m', f', e, p1, p2, hm, hr'.setOther (a := ⟨b, k, none⟩) (by exact row_ne hr' hr (by decide)) u, hf⟩
theorem OwnI.two {w : World} {lo hi : Nat} {A : Option Addr} {zs : List Int} (h : OwnI w lo hi A zs) {b : Nat} {cs : Array Value} (X : Box w b 26 cs) (u0 u1 : Value) : OwnI ((w.setCell ⟨b, 0, none⟩ u0).setCell ⟨b, 1, none⟩ u1) lo hi A zs := (h.farB X (by decide) 0 u0).farB (X.set 0 u0) (by decide) 1 u1
theorem OwnB.two {w : World} {lo hi : Nat} {A : Option Addr} {zs : List Bool} (h : OwnB w lo hi A zs) {b : Nat} {cs : Array Value} (X : Box w b 26 cs) (u0 u1 : Value) : OwnB ((w.setCell ⟨b, 0, none⟩ u0).setCell ⟨b, 1, none⟩ u1) lo hi A zs := (h.far X (by decide) 0 u0).far (X.set 0 u0) (by decide) 1 u1
theorem Box.far2 {w : World} {b b' : Nat} {t : TypeId} {cs : Array Value} (X : Box w b t cs) (hb : b ≠ b') (u0 u1 : Value) : Box ((w.setCell ⟨b', 0, none⟩ u0).setCell ⟨b', 1, none⟩ u1) b t cs := (X.far (p := ⟨b', 0, none⟩) hb u0).far (p := ⟨b', 1, none⟩) hb u1
theorem Box.otherRow {w : World} {b b' : Nat} {t t' : TypeId} {cs : Array Value} (X : Box w b t cs) {m : Nat} {f : Nat → Value} (hr : w.rowIs b' t' m f) (ht : t ≠ t') (k : Nat) (u : Value) : Box (w.setCell ⟨b', k, none⟩ u) b t cs := X.far (p := ⟨b', k, none⟩) (by exact X.ne hr ht) u

/-- A controller of the call's own, by its two rows. -/
def GivesQ (ls : List Int) (ps : List Bool) (w : World) (e : Ending) (w' : World) : Prop :=
  ∃ A0 A1 c0 c1, e = .returned (.agg #[.slice A0 8 c0, .slice A1 8 c1]) ∧ Hid (OwnI w' w.heap.size w'.heap.size A0 ls ∧ OwnB w' w.heap.size w'.heap.size A1 ps) ∧ Below w.heap.size w w'
theorem GivesQ.irq {ls : List Int} {ps : List Bool} {w w' : World} {e : Ending} (h : GivesQ ls ps w e w') (h1 : ls.length = 8) (h2 : ps.length = 8) : GivesIrq ls ps w e w' := by
  obtain ⟨A0, A1, c0, c1, rfl, O, hb⟩ := h
  refine ⟨A0, A1, c0, c1, rfl, Lib.hid ?_, hb⟩
  have := ownIB (c := c0) (d := c1) O.out.1 O.out.2
  rwa [h1, h2] at this
def ownQ (M : Nat) (s0 s1 : Value) (d0 : List Int) (d1 : List Bool) : Nat → (Nat → Value) → World → Prop
  | 0, t, _ => ∃ b, t 3 = .slice (some b) 0 0
  | 1, t, _ => t 4 = .pointer (some ⟨M, 0, none⟩)
  | 2, t, _ => t 5 = s0
  | 3, t, w => ∃ A c, t 6 = .slice A 8 c ∧ OwnI w M w.heap.size A d0
  | 4, t, _ => ∃ b, t 7 = .slice (some b) 0 0
  | 5, t, _ => t 8 = .pointer (some ⟨M, 1, none⟩)
  | 6, t, _ => t 9 = s1
  | 7, t, w => ∃ A c A' c', t 6 = .slice A 8 c ∧ t 10 = .slice A' 8 c' ∧ OwnI w M w.heap.size A d0 ∧ OwnB w M w.heap.size A' d1
  | 8, t, _ => ∃ A c A' c', t 6 = .slice A 8 c ∧ t 10 = .slice A' 8 c' ∧ t 11 = .agg #[.slice A 8 c, .slice A' 8 c']
  | 9, t, w => ∃ A c A' c', t 6 = .slice A 8 c ∧ t 10 = .slice A' 8 c' ∧ Box w (M + 1) 26 #[.slice A 8 c, .slice A' 8 c']
  | _, _, _ => True
section
variable {M : Nat} {s0 s1 : Value} {d0 : List Int} {d1 : List Bool} {w w' : World}
theorem ownQ_below (k : Below w.heap.size w w') : ∀ (j : Nat) (t : Nat → Value), ownQ M s0 s1 d0 d1 j t w → ownQ M s0 s1 d0 d1 j t w'
  | 0, _, h | 1, _, h | 2, _, h | 4, _, h | 5, _, h | 6, _, h | 8, _, h => h
  | 3, _, ⟨A, c, e, h⟩ => ⟨A, c, e, (h.below k).wideB (Nat.le_refl _) k.size⟩
  | 7, _, ⟨A, c, A', c', e, e2, h, h2⟩ => ⟨A, c, A', c', e, e2, (h.below k).wideB (Nat.le_refl _) k.size, (h2.below k).wide (Nat.le_refl _) k.size⟩
  | 9, _, ⟨A, c, A', c', e, e2, h⟩ => ⟨A, c, A', c', e, e2, h.step k⟩
  | _ + 10, _, _ => trivial
theorem ownQ_store {ys : Array Value} (Y : Box w (M + 1) 26 ys) (i : Nat) (u : Value) : ∀ (j : Nat) (t : Nat → Value), j ≠ 9 → ownQ M s0 s1 d0 d1 j t w → ownQ M s0 s1 d0 d1 j t (w.setCell ⟨M + 1, i, none⟩ u)
  | 0, _, _, h | 1, _, _, h | 2, _, _, h | 4, _, _, h | 5, _, _, h | 6, _, _, h | 8, _, _, h => h
  | 3, _, _, ⟨A, c, e, h⟩ => ⟨A, c, e, (h.farB Y (by decide) i u).wideB (Nat.le_refl _) (by simp [World.setCell])⟩
  | 7, _, _, ⟨A, c, A', c', e, e2, h, h2⟩ => ⟨A, c, A', c', e, e2, (h.farB Y (by decide) i u).wideB (Nat.le_refl _) (by simp [World.setCell]), (h2.far Y (by decide) i u).wide (Nat.le_refl _) (by simp [World.setCell])⟩
  | 9, _, n, _ => (n rfl).elim
  | _ + 10, _, _, _ => trivial
end

set_option maxRecDepth 100000 in
set_option maxHeartbeats 4000000 in
theorem l06Own (A0 A1 : Option Addr) (c0 c1 : Nat) (d0 : List Int) (d1 : List Bool) (w : World) (l0 : d0.length = 8) (l1 : d1.length = 8) (h0 : IntL w A0 d0) (h1 : BoolL w A1 d1) :
    Calls Try.prog 51 #[.agg #[.slice A0 8 c0, .slice A1 8 c1]] w (GivesQ d0 d1 w) := by
  obtain ⟨W0, hW0⟩ : ∃ W0, W0 = ((w.alloc (.cells #[.slice A0 8 c0, .slice A1 8 c1] 26)).alloc (.cells #[.slice none 0 0, .slice none 0 0] 26)) := ⟨_, rfl⟩
  have hb0 : Below w.heap.size w W0 := by rw [hW0]; exact bt (alloc_below _ _) (alloc_below _ _)
  have X0 : Box W0 w.heap.size 26 #[.slice A0 8 c0, .slice A1 8 c1] := by rw [hW0]; exact (Box.new _ _ _).alloc _
  have Y0 : Box W0 (w.heap.size + 1) 26 #[.slice none 0 0, .slice none 0 0] := by rw [hW0]; simpa using Box.new (w.alloc (.cells #[.slice A0 8 c0, .slice A1 8 c1] 26)) 26 #[.slice none 0 0, .slice none 0 0]
  have HB : Hid (∀ W, RQ W0 w.heap.size W → Below w.heap.size w W) := Lib.hid (fun W r => hb0.trans (r.1.mono (by omega)))
  have HS0 := Lib.hid (fun W (r : RQ W0 w.heap.size W) => (h0.below (HB.out _ r)).src (by omega))
  have HS1 := Lib.hid (fun W (r : RQ W0 w.heap.size W) => (h1.below (HB.out _ r)).src (by omega))
  have HN : Hid ((cellsI d0).length = 8 * 1 ∧ (cellsB d1).length = 8 * 1) := Lib.hid ⟨by rw [cellsI_len]; omega, by rw [cellsB_len]; omega⟩
  have HK : Hid (∀ W', RQ W0 w.heap.size W' → W'.cell? ⟨w.heap.size, 0, none⟩ = some (.slice A0 8 c0) ∧ W'.cell? ⟨w.heap.size, 1, none⟩ = some (.slice A1 8 c1)) := Lib.hid (fun W' r => by
    have X := X0.below r.1 (by omega)
    exact ⟨X.cell 0 rfl, X.cell 1 rfl⟩)
  have hs0 : W0.heap.size = w.heap.size + 2 := by rw [hW0]; simp
  have HW0 := Lib.hid hW0
  have R0 : RQ W0 w.heap.size W0.drew := ⟨(Below.refl _ _).drew, by show w.heap.size + 1 ≤ W0.heap.size; omega, _, rfl, Y0⟩
  clear l0 l1 h0 h1 X0 Y0 hW0 hs0 hb0
  go_enter Try.func51, Try.ntmps51
  go_wp2
  rw [← HW0.out]
  refine wp_region_facts (by kernel_rfl) [[3], [4], [5], [6], [7], [8], [9], [6, 10], [6, 10, 11], [6, 10]] [[], [], [1], [0, 1, 2], [], [], [5], [4, 5, 6, 3, 0, 1, 2], [7, 4, 5, 6, 3, 0, 1, 2], [0, 1, 2, 3, 4, 5, 6, 7, 8]] [0, 1, 2] (by kernel_rfl) (RQ W0 w.heap.size) (ownQ w.heap.size (.slice A0 8 c0) (.slice A1 8 c1) d0 d1) R0 ?_ ?_
  · refine ⟨?_, ?_, ?_, ?_, ?_, ?_, ?_, ?_, ?_, ?_, trivial⟩
    · intro T W hT hs hC hF K hK
      obtain ⟨t0, t1, t2, t3, t4, t5, t6, t7, t8, t9, t10, t11, rfl⟩ := arr12 T hT
      obtain rfl : t1 = .pointer (some ⟨w.heap.size, 0, none⟩) := hs 1 (by decide)
      obtain rfl : t2 = .pointer (some ⟨w.heap.size + 1, 0, none⟩) := hs 2 (by decide)
      clear hF hs hT
      have k := alloc_below W (.cells #[] 3)
      go_simp
      exact hK.out _ _ (hC.alloc _) (fun j t _ h => ownQ_below k j t h) ⟨_, rfl⟩
    · intro T W hT hs hC hF K hK
      obtain ⟨t0, t1, t2, t3, t4, t5, t6, t7, t8, t9, t10, t11, rfl⟩ := arr12 T hT
      obtain rfl : t1 = .pointer (some ⟨w.heap.size, 0, none⟩) := hs 1 (by decide)
      obtain rfl : t2 = .pointer (some ⟨w.heap.size + 1, 0, none⟩) := hs 2 (by decide)
      clear hF hs hT
      go_simp
      exact hK.out _ W hC (fun _ _ _ h => h) rfl
    · intro T W hT hs hC hF K hK
      obtain ⟨t0, t1, t2, t3, t4, t5, t6, t7, t8, t9, t10, t11, rfl⟩ := arr12 T hT
      obtain rfl : t1 = .pointer (some ⟨w.heap.size, 0, none⟩) := hs 1 (by decide)
      obtain rfl : t2 = .pointer (some ⟨w.heap.size + 1, 0, none⟩) := hs 2 (by decide)
      have f1 := hF 1 (by decide)
      simp only [ownQ, mask] at f1
      clear hF hs hT
      subst f1
      have k := (HK.out W hC).1
      go_simp
      exact hK.out _ W hC (fun _ _ _ h => h) rfl
    · intro T W hT hs hC hF K hK
      obtain ⟨t0, t1, t2, t3, t4, t5, t6, t7, t8, t9, t10, t11, rfl⟩ := arr12 T hT
      obtain rfl : t1 = .pointer (some ⟨w.heap.size, 0, none⟩) := hs 1 (by decide)
      obtain rfl : t2 = .pointer (some ⟨w.heap.size + 1, 0, none⟩) := hs 2 (by decide)
      have f0 := hF 0 (by decide)
      simp only [ownQ, mask] at f0
      have f2 := hF 2 (by decide)
      simp only [ownQ, mask] at f2
      clear hF hs hT
      obtain ⟨b, e3⟩ := f0
      subst e3 f2
      refine wp_app_fresh6 (.tmp 3) (.tmp 5) 23 rfl 3 (.int .i64 0) 1 8 Try.underlying23 infoIx rfl (by decide) b rfl A0 8 c0 (by omega) (cellsI d0) rfl HN.out.1 (HS0.out _ hC) (by unfold maxLen; omega) (by omega) ?_
      intro A c w1 k O
      exact hK.out _ w1 (hC.step k) (fun j t _ h => ownQ_below k j t h) ⟨A, c, rfl, ownI_fresh O.out (by omega) (HB.out _ hC).size⟩
    · intro T W hT hs hC hF K hK
      obtain ⟨t0, t1, t2, t3, t4, t5, t6, t7, t8, t9, t10, t11, rfl⟩ := arr12 T hT
      obtain rfl : t1 = .pointer (some ⟨w.heap.size, 0, none⟩) := hs 1 (by decide)
      obtain rfl : t2 = .pointer (some ⟨w.heap.size + 1, 0, none⟩) := hs 2 (by decide)
      clear hF hs hT
      have k := alloc_below W (.cells #[] 4)
      go_simp
      exact hK.out _ _ (hC.alloc _) (fun j t _ h => ownQ_below k j t h) ⟨_, rfl⟩
    · intro T W hT hs hC hF K hK
      obtain ⟨t0, t1, t2, t3, t4, t5, t6, t7, t8, t9, t10, t11, rfl⟩ := arr12 T hT
      obtain rfl : t1 = .pointer (some ⟨w.heap.size, 0, none⟩) := hs 1 (by decide)
      obtain rfl : t2 = .pointer (some ⟨w.heap.size + 1, 0, none⟩) := hs 2 (by decide)
      clear hF hs hT
      go_simp
      exact hK.out _ W hC (fun _ _ _ h => h) rfl
    · intro T W hT hs hC hF K hK
      obtain ⟨t0, t1, t2, t3, t4, t5, t6, t7, t8, t9, t10, t11, rfl⟩ := arr12 T hT
      obtain rfl : t1 = .pointer (some ⟨w.heap.size, 0, none⟩) := hs 1 (by decide)
      obtain rfl : t2 = .pointer (some ⟨w.heap.size + 1, 0, none⟩) := hs 2 (by decide)
      have f5 := hF 5 (by decide)
      simp only [ownQ, mask] at f5
      clear hF hs hT
      subst f5
      have k := (HK.out W hC).2
      go_simp
      exact hK.out _ W hC (fun _ _ _ h => h) rfl
    · intro T W hT hs hC hF K hK
      obtain ⟨t0, t1, t2, t3, t4, t5, t6, t7, t8, t9, t10, t11, rfl⟩ := arr12 T hT
      obtain rfl : t1 = .pointer (some ⟨w.heap.size, 0, none⟩) := hs 1 (by decide)
      obtain rfl : t2 = .pointer (some ⟨w.heap.size + 1, 0, none⟩) := hs 2 (by decide)
      have f4 := hF 4 (by decide)
      simp only [ownQ, mask] at f4
      have f6 := hF 6 (by decide)
      simp only [ownQ, mask] at f6
      have f3 := hF 3 (by decide)
      simp only [ownQ, mask] at f3
      clear hF hs hT
      obtain ⟨b, e3⟩ := f4
      obtain ⟨A, c, e6, O6⟩ := f3
      subst e3 f6 e6
      have H6 := Lib.hid O6
      clear O6
      refine wp_app_fresh6 (.tmp 7) (.tmp 9) 24 rfl 4 (.bool false) 1 1 Try.underlying24 infoBx rfl (by decide) b rfl A1 8 c1 (by omega) (cellsB d1) rfl HN.out.2 (HS1.out _ hC) (by unfold maxLen; omega) (by omega) ?_
      intro A' c' w1 k O
      exact hK.out _ w1 (hC.step k) (fun j t _ h => ownQ_below k j t h) ⟨A, c, A', c', rfl, rfl, (H6.out.below k).wideB (Nat.le_refl _) k.size, ownB_fresh O.out (by omega) (HB.out _ hC).size⟩
    · intro T W hT hs hC hF K hK
      obtain ⟨t0, t1, t2, t3, t4, t5, t6, t7, t8, t9, t10, t11, rfl⟩ := arr12 T hT
      obtain rfl : t1 = .pointer (some ⟨w.heap.size, 0, none⟩) := hs 1 (by decide)
      obtain rfl : t2 = .pointer (some ⟨w.heap.size + 1, 0, none⟩) := hs 2 (by decide)
      have f7 := hF 7 (by decide)
      simp only [ownQ, mask] at f7
      clear hF hs hT
      obtain ⟨A, c, A', c', e6, e10, O6, O10⟩ := f7
      subst e6 e10
      clear O6 O10
      go_simp
      exact hK.out _ W hC (fun _ _ _ h => h) ⟨A, c, A', c', rfl, rfl, rfl⟩
    · intro T W hT hs hC hF K hK
      obtain ⟨t0, t1, t2, t3, t4, t5, t6, t7, t8, t9, t10, t11, rfl⟩ := arr12 T hT
      obtain rfl : t1 = .pointer (some ⟨w.heap.size, 0, none⟩) := hs 1 (by decide)
      obtain rfl : t2 = .pointer (some ⟨w.heap.size + 1, 0, none⟩) := hs 2 (by decide)
      have f8 := hF 8 (by decide)
      simp only [ownQ, mask] at f8
      clear hF hs hT
      obtain ⟨A, c, A', c', e6, e10, e11⟩ := f8
      subst e6 e10 e11
      obtain ⟨hCa, hCb, ys, hys, Y⟩ := hC
      have y0 := YV2.of Y hys 0 (by omega)
      have y1 := YV2.of Y hys 1 (by omega)
      have z0 := Y.frozen 0
      have z1 := Y.frozen 1
      have HYs := Lib.hid (And.intro hys Y)
      have hC : RQ W0 w.heap.size W := ⟨hCa, hCb, ys, hys, Y⟩
      clear hys Y hCa hCb
      go_simp
      exact hK.out undef _ ((hC.set 0 _).set 1 _) (fun j t n h => ownQ_store (HYs.out.2.set 0 _) 1 _ j t n (ownQ_store HYs.out.2 0 _ j t n h)) ⟨A, c, A', c', rfl, rfl, HYs.out.2.all2 HYs.out.1 _ _⟩
  · intro T W hT hs hC hF
    obtain ⟨t0, t1, t2, t3, t4, t5, t6, t7, t8, t9, t10, t11, rfl⟩ := arr12 T hT
    obtain rfl : t1 = .pointer (some ⟨w.heap.size, 0, none⟩) := hs 1 (by decide)
    obtain rfl : t2 = .pointer (some ⟨w.heap.size + 1, 0, none⟩) := hs 2 (by decide)
    obtain ⟨A, c, A', c', e6, e10, O6, O10⟩ := hF 7 (by decide)
    obtain ⟨x1, x2, x3, x4, f6, f10, Y⟩ := hF 9 (by decide)
    have E1 : Value.slice A 8 c = .slice x1 8 x2 := (show t6 = _ from e6).symm.trans f6
    have E2 : Value.slice A' 8 c' = .slice x3 8 x4 := (show t10 = _ from e10).symm.trans f10
    simp only [Value.slice.injEq, true_and] at E1 E2
    obtain ⟨r1, r2⟩ := E1
    obtain ⟨r3, r4⟩ := E2
    subst r1 r2 r3 r4
    have y0 := Y.cell 0 rfl
    have y1 := Y.cell 1 rfl
    have HR : Hid (OwnI W w.heap.size W.heap.size A d0 ∧ OwnB W w.heap.size W.heap.size A' d1) := Lib.hid ⟨O6, O10⟩
    have HBw := Lib.hid (HB.out _ hC)
    clear e6 e10 f6 f10 O6 O10 Y hF hs hT hC R0
    go_wp2
    refine bodyPost_ret (v := .agg #[.slice A 8 c, .slice A' 8 c']) (by simp [results, Try.results51, go_sem, y0, y1]) rfl ?_
    exact ⟨A, A', c, c', rfl, HR, HBw.out⟩

set_option maxRecDepth 100000 in
set_option maxHeartbeats 2000000 in
theorem l06Set (A0 A1 : Option Addr) (c0 c1 : Nat) (d0 : List Int) (d1 : List Bool) (w : World) (k : Nat) (x : Bool) (hk : k < 8) (l0 : d0.length = 8) (l1 : d1.length = 8) (h0 : IntL w A0 d0) (h1 : BoolL w A1 d1) :
    Calls Try.prog 52 #[.agg #[.slice A0 8 c0, .slice A1 8 c1], .int .i64 k, .bool x] w (GivesQ d0 (d1.set k x) w) := by
  obtain ⟨W0, hW0⟩ : ∃ W0, W0 = ((w.alloc (.cells #[.slice A0 8 c0, .slice A1 8 c1] 26)).alloc (.cells #[.slice none 0 0, .slice none 0 0] 26)) := ⟨_, rfl⟩
  have hbq : Below w.heap.size w W0 := by rw [hW0]; exact bt (alloc_below _ _) (alloc_below _ _)
  have X : Hid (Box W0 w.heap.size 26 #[.slice A0 8 c0, .slice A1 8 c1]) := Lib.hid (by rw [hW0]; exact (Box.new _ _ _).alloc _)
  have Y : Hid (Box W0 (w.heap.size + 1) 26 #[.slice none 0 0, .slice none 0 0]) := Lib.hid (by rw [hW0]; simpa using Box.new (w.alloc (.cells #[.slice A0 8 c0, .slice A1 8 c1] 26)) 26 #[.slice none 0 0, .slice none 0 0])
  have HO := Lib.hid (l06Own A0 A1 c0 c1 d0 d1 W0 l0 l1 (h0.below hbq) (h1.below hbq))
  have HLn := Lib.hid (And.intro l0 l1)
  have HW0 := Lib.hid hW0
  clear l0 l1 h0 h1 hW0
  go_enter Try.func52, Try.ntmps52
  go_wp2_with fail
  rw [← HW0.out]
  refine HO.out.mono ?_
  rintro e w2 ⟨B0, B1, g0, g1, rfl, O, hb2⟩
  have X1 := X.out.step hb2
  have Y1 := Y.out.step hb2
  have a0 := X1.cell 0 rfl
  have a1 := X1.cell 1 rfl
  have a0z := X1.frozen 0
  have a1z := X1.frozen 1
  obtain ⟨w3, hw3⟩ : ∃ w3, w3 = (w2.setCell ⟨w.heap.size, 0, none⟩ (.slice B0 8 g0)).setCell ⟨w.heap.size, 1, none⟩ (.slice B1 8 g1) := ⟨_, rfl⟩
  have X2 : Box w3 w.heap.size 26 #[.slice B0 8 g0, .slice B1 8 g1] := by rw [hw3]; exact X1.all2 rfl _ _
  have Y2 : Box w3 (w.heap.size + 1) 26 #[.slice none 0 0, .slice none 0 0] := by rw [hw3]; exact Y1.far2 (by omega) _ _
  have OI : OwnI w3 w.heap.size w3.heap.size B0 d0 := by rw [hw3]; exact (O.out.1.two X1 _ _).wideB hbq.size (by rw [size2]; exact Nat.le_refl _)
  have OB : OwnB w3 w.heap.size w3.heap.size B1 d1 := by rw [hw3]; exact (O.out.2.two X1 _ _).wide hbq.size (by rw [size2]; exact Nat.le_refl _)
  have hb3 : Below w.heap.size w w3 := by rw [hw3]; exact below2 (bt hbq hb2) (Nat.le_refl _) _ _
  obtain ⟨bx, mx, fx, rfl, hcx, hfx, hlo, hhi, hrx, hput⟩ := OB.put k (by rw [HLn.out.2]; exact hk)
  have X3 := X2.otherRow hrx (by decide) k (.bool x)
  have Y3 := Y2.otherRow hrx (by decide) k (.bool x)
  have u0 := X3.cell 0 rfl
  have u1 := X3.cell 1 rfl
  have t0 := Y3.cell 0 rfl
  have t1 := Y3.cell 1 rfl
  have t0z := Y3.frozen 0
  have t1z := Y3.frozen 1
  have HFin : Hid (OwnI (w3.setCell ⟨bx, k, none⟩ (.bool x)) w.heap.size w3.heap.size B0 d0 ∧ OwnB (w3.setCell ⟨bx, k, none⟩ (.bool x)) w.heap.size w3.heap.size (some ⟨bx, 0, none⟩) (d1.set k x)) := Lib.hid ⟨OI.setRowB hrx k _, hput x⟩
  have HY3 := Lib.hid Y3
  have HB3 := Lib.hid (And.intro (hb3.setCell (p := ⟨bx, k, none⟩) hlo (.bool x)) hw3)
  rw [hw3] at hcx hfx u0 u1 t0 t1 t0z t1z
  generalize d1.getD k false = old at hcx
  have hki : (k : Int) < 8 := by omega
  clear X1 Y1 O hb2 hw3 X2 Y2 OI OB hb3 hlo hhi hrx hput X3 Y3 X Y HO fx
  go_wp2
  refine bodyPost_ret (v := .agg #[.slice B0 8 g0, .slice (some ⟨bx, 0, none⟩) 8 g1]) (by simp [results, Try.results52, go_sem, t0, t1]) rfl ?_
  rw [← HB3.out.2]
  exact ⟨_, _, _, _, rfl, Lib.hid ⟨(HFin.out.1.two HY3.out _ _).wideB (Nat.le_refl _) (by rw [size2]; simp [World.setCell]), (HFin.out.2.two HY3.out _ _).wide (Nat.le_refl _) (by rw [size2]; simp [World.setCell])⟩, below2 HB3.out.1 (by omega) _ _⟩

set_option maxRecDepth 100000 in
set_option maxHeartbeats 4000000 in
theorem specRaise (A0 A1 : Option Addr) (n0 n1 c0 c1 : Nat) (d0 : List Int) (d1 : List Bool) (w : World) (n : Int) (l0 : d0.length = n0) (l1 : d1.length = n1) (m0 : n0 ≤ maxLen) (m1 : n1 ≤ maxLen) (h0 : IntL w A0 d0) (h1 : BoolL w A1 d1) :
    Calls Try.prog 27 #[.agg #[.slice A0 n0 c0, .slice A1 n1 c1], .int .i64 n] w (GivesIrqCode (pendF d0 d1 n true) w) := by
  obtain ⟨W0, hW0⟩ : ∃ W0, W0 = ((w.alloc (.cells #[.slice A0 n0 c0, .slice A1 n1 c1] 26)).alloc (.cells #[.slice none 0 0, .slice none 0 0] 26)) := ⟨_, rfl⟩
  have hb0 : Below w.heap.size w W0 := by rw [hW0]; exact bt (alloc_below _ _) (alloc_below _ _)
  have X0 : Hid (Box W0 w.heap.size 26 #[.slice A0 n0 c0, .slice A1 n1 c1]) := Lib.hid (by rw [hW0]; exact (Box.new _ _ _).alloc _)
  have Y0 : Hid (Box W0 (w.heap.size + 1) 26 #[.slice none 0 0, .slice none 0 0]) := Lib.hid (by rw [hW0]; simpa using Box.new (w.alloc (.cells #[.slice A0 n0 c0, .slice A1 n1 c1] 26)) 26 #[.slice none 0 0, .slice none 0 0])
  have HC := Lib.hid (l06Ask A0 A1 n0 n1 c0 c1 d0 d1 W0 n l0 l1 m0 m1 (h0.below hb0))
  have H := Lib.hid (And.intro (And.intro l0 l1) (And.intro h0 h1))
  obtain ⟨r, hr⟩ : ∃ r, pendF d0 d1 n true = r := ⟨_, rfl⟩
  rw [hr]
  have HR := Lib.hid hr
  have HW0 := Lib.hid hW0
  clear l0 l1 m0 m1 h0 h1 hW0 hr
  go_enter Try.func27, Try.ntmps27
  go_wp2_with fail
  rw [← HW0.out]
  refine HC.out.mono ?_
  rintro e w1 ⟨rfl, hb1⟩
  have hbq := bt hb0 hb1
  have Y := Lib.hid (Y0.out.step hb1)
  have X := Lib.hid (X0.out.step hb1)
  have s0 := Y.out.cell 0 rfl
  have s1 := Y.out.cell 1 rfl
  have s0z := Y.out.frozen 0
  have s1z := Y.out.frozen 1
  by_cases hc : lineC d0 d1 n = 0
  · have hcb : (lineC d0 d1 n != 0) = false := by simp [hc]
    obtain ⟨hok, hln⟩ := lineC_zero hc
    obtain ⟨q0, q1, -⟩ := okIrq_len hok
    obtain rfl : n0 = 8 := by have := H.out.1.1; omega
    obtain rfl : n1 = 8 := by have := H.out.1.2; omega
    obtain ⟨k, rfl⟩ : ∃ k : Nat, n = k := ⟨n.toNat, by have := lvB_range hln; omega⟩
    have hk : k < 8 := by have := lvB_range hln; omega
    have HLn := Lib.hid (And.intro q0 q1)
    have f0 := X.out.cell 0 rfl
    have f1 := X.out.cell 1 rfl
    have HO := Lib.hid (l06Set A0 A1 c0 c1 d0 d1 w1 k true hk q0 q1 (H.out.2.1.below hbq) (H.out.2.2.below hbq))
    have HRz : Hid (r = (d0, d1.set k true, 0)) := Lib.hid (by rw [← HR.out]; unfold pendF; rw [if_pos hc]; rfl)
    have HL2 : Hid ((d1.set k true).length = 8) := Lib.hid (by rw [List.length_set]; exact q1)
    generalize d1.set k true = new at HO HRz HL2
    clear HC hok hln X0 Y0 H HW0 q0 q1 hc HR
    go_wp2_with fail
    refine HO.out.mono ?_
    rintro e w2 ⟨B0, B1, g0, g1, rfl, O, hb2⟩
    have Y2 := Y.out.step hb2
    have t0 := Y2.cell 0 rfl
    have t1 := Y2.cell 1 rfl
    have t0z := Y2.frozen 0
    have t1z := Y2.frozen 1
    have HY2 := Lib.hid Y2
    clear Y2 HO s0 s1 s0z s1z f0 f1
    go_wp2
    refine bodyPost_ret (v := .tuple #[.agg #[.slice B0 8 g0, .slice B1 8 g1], .int .i64 0]) (by simp [results, Try.results27, go_sem, t0, t1]) rfl ?_
    rw [HRz.out]
    refine ⟨B0, B1, g0, g1, ?_, Lib.hid ?_, below2 (bt hbq hb2) (by omega) _ _⟩
    · show _ = Ending.returned (.tuple #[.agg #[.slice B0 d0.length g0, .slice B1 new.length g1], .int .i64 0])
      rw [HLn.out.1, HL2.out]
    · exact ownIB ((O.out.1.two HY2.out _ _).wideB hbq.size (by rw [size2]; exact Nat.le_refl _)) ((O.out.2.two HY2.out _ _).wide hbq.size (by rw [size2]; exact Nat.le_refl _))
  · have hcb : (lineC d0 d1 n != 0) = true := by simp [hc]
    have HRz : Hid (r = ([], [], lineC d0 d1 n)) := Lib.hid (by rw [← HR.out]; unfold pendF; rw [if_neg hc])
    generalize lineC d0 d1 n = cd at hcb hc HRz
    clear HR HC X0 Y0 X H HW0 hc
    go_wp2
    refine bodyPost_ret (v := .tuple #[.agg #[.slice none 0 0, .slice none 0 0], .int .i64 cd]) (by simp [results, Try.results27, go_sem, s0, s1]) rfl ?_
    rw [HRz.out]
    exact gives_none cd (below2 hbq (by omega) _ _)

set_option maxRecDepth 100000 in
set_option maxHeartbeats 4000000 in
theorem specAck (A0 A1 : Option Addr) (n0 n1 c0 c1 : Nat) (d0 : List Int) (d1 : List Bool) (w : World) (n : Int) (l0 : d0.length = n0) (l1 : d1.length = n1) (m0 : n0 ≤ maxLen) (m1 : n1 ≤ maxLen) (h0 : IntL w A0 d0) (h1 : BoolL w A1 d1) :
    Calls Try.prog 28 #[.agg #[.slice A0 n0 c0, .slice A1 n1 c1], .int .i64 n] w (GivesIrqCode (pendF d0 d1 n false) w) := by
  obtain ⟨W0, hW0⟩ : ∃ W0, W0 = ((w.alloc (.cells #[.slice A0 n0 c0, .slice A1 n1 c1] 26)).alloc (.cells #[.slice none 0 0, .slice none 0 0] 26)) := ⟨_, rfl⟩
  have hb0 : Below w.heap.size w W0 := by rw [hW0]; exact bt (alloc_below _ _) (alloc_below _ _)
  have X0 : Hid (Box W0 w.heap.size 26 #[.slice A0 n0 c0, .slice A1 n1 c1]) := Lib.hid (by rw [hW0]; exact (Box.new _ _ _).alloc _)
  have Y0 : Hid (Box W0 (w.heap.size + 1) 26 #[.slice none 0 0, .slice none 0 0]) := Lib.hid (by rw [hW0]; simpa using Box.new (w.alloc (.cells #[.slice A0 n0 c0, .slice A1 n1 c1] 26)) 26 #[.slice none 0 0, .slice none 0 0])
  have HC := Lib.hid (l06Ask A0 A1 n0 n1 c0 c1 d0 d1 W0 n l0 l1 m0 m1 (h0.below hb0))
  have H := Lib.hid (And.intro (And.intro l0 l1) (And.intro h0 h1))
  obtain ⟨r, hr⟩ : ∃ r, pendF d0 d1 n false = r := ⟨_, rfl⟩
  rw [hr]
  have HR := Lib.hid hr
  have HW0 := Lib.hid hW0
  clear l0 l1 m0 m1 h0 h1 hW0 hr
  go_enter Try.func28, Try.ntmps28
  go_wp2_with fail
  rw [← HW0.out]
  refine HC.out.mono ?_
  rintro e w1 ⟨rfl, hb1⟩
  have hbq := bt hb0 hb1
  have Y := Lib.hid (Y0.out.step hb1)
  have X := Lib.hid (X0.out.step hb1)
  have s0 := Y.out.cell 0 rfl
  have s1 := Y.out.cell 1 rfl
  have s0z := Y.out.frozen 0
  have s1z := Y.out.frozen 1
  by_cases hc : lineC d0 d1 n = 0
  · have hcb : (lineC d0 d1 n != 0) = false := by simp [hc]
    obtain ⟨hok, hln⟩ := lineC_zero hc
    obtain ⟨q0, q1, -⟩ := okIrq_len hok
    obtain rfl : n0 = 8 := by have := H.out.1.1; omega
    obtain rfl : n1 = 8 := by have := H.out.1.2; omega
    obtain ⟨k, rfl⟩ : ∃ k : Nat, n = k := ⟨n.toNat, by have := lvB_range hln; omega⟩
    have hk : k < 8 := by have := lvB_range hln; omega
    have HLn := Lib.hid (And.intro q0 q1)
    have f0 := X.out.cell 0 rfl
    have f1 := X.out.cell 1 rfl
    have HO := Lib.hid (l06Set A0 A1 c0 c1 d0 d1 w1 k false hk q0 q1 (H.out.2.1.below hbq) (H.out.2.2.below hbq))
    have HRz : Hid (r = (d0, d1.set k false, 0)) := Lib.hid (by rw [← HR.out]; unfold pendF; rw [if_pos hc]; rfl)
    have HL2 : Hid ((d1.set k false).length = 8) := Lib.hid (by rw [List.length_set]; exact q1)
    generalize d1.set k false = new at HO HRz HL2
    clear HC hok hln X0 Y0 H HW0 q0 q1 hc HR
    go_wp2_with fail
    refine HO.out.mono ?_
    rintro e w2 ⟨B0, B1, g0, g1, rfl, O, hb2⟩
    have Y2 := Y.out.step hb2
    have t0 := Y2.cell 0 rfl
    have t1 := Y2.cell 1 rfl
    have t0z := Y2.frozen 0
    have t1z := Y2.frozen 1
    have HY2 := Lib.hid Y2
    clear Y2 HO s0 s1 s0z s1z f0 f1
    go_wp2
    refine bodyPost_ret (v := .tuple #[.agg #[.slice B0 8 g0, .slice B1 8 g1], .int .i64 0]) (by simp [results, Try.results28, go_sem, t0, t1]) rfl ?_
    rw [HRz.out]
    refine ⟨B0, B1, g0, g1, ?_, Lib.hid ?_, below2 (bt hbq hb2) (by omega) _ _⟩
    · show _ = Ending.returned (.tuple #[.agg #[.slice B0 d0.length g0, .slice B1 new.length g1], .int .i64 0])
      rw [HLn.out.1, HL2.out]
    · exact ownIB ((O.out.1.two HY2.out _ _).wideB hbq.size (by rw [size2]; exact Nat.le_refl _)) ((O.out.2.two HY2.out _ _).wide hbq.size (by rw [size2]; exact Nat.le_refl _))
  · have hcb : (lineC d0 d1 n != 0) = true := by simp [hc]
    have HRz : Hid (r = ([], [], lineC d0 d1 n)) := Lib.hid (by rw [← HR.out]; unfold pendF; rw [if_neg hc])
    generalize lineC d0 d1 n = cd at hcb hc HRz
    clear HR HC X0 Y0 X H HW0 hc
    go_wp2
    refine bodyPost_ret (v := .tuple #[.agg #[.slice none 0 0, .slice none 0 0], .int .i64 cd]) (by simp [results, Try.results28, go_sem, s0, s1]) rfl ?_
    rw [HRz.out]
    exact gives_none cd (below2 hbq (by omega) _ _)

set_option maxRecDepth 100000 in
set_option maxHeartbeats 4000000 in
theorem specSetLevel (A0 A1 : Option Addr) (n0 n1 c0 c1 : Nat) (d0 : List Int) (d1 : List Bool) (w : World) (n v : Int) (l0 : d0.length = n0) (l1 : d1.length = n1) (m0 : n0 ≤ maxLen) (m1 : n1 ≤ maxLen) (h0 : IntL w A0 d0) (h1 : BoolL w A1 d1) :
    Calls Try.prog 26 #[.agg #[.slice A0 n0 c0, .slice A1 n1 c1], .int .i64 n, .int .i64 v] w (GivesIrqCode (levF d0 d1 n v) w) := by
  obtain ⟨W0, hW0⟩ : ∃ W0, W0 = ((w.alloc (.cells #[.slice A0 n0 c0, .slice A1 n1 c1] 26)).alloc (.cells #[.slice none 0 0, .slice none 0 0] 26)) := ⟨_, rfl⟩
  have hb0 : Below w.heap.size w W0 := by rw [hW0]; exact bt (alloc_below _ _) (alloc_below _ _)
  have X0 : Hid (Box W0 w.heap.size 26 #[.slice A0 n0 c0, .slice A1 n1 c1]) := Lib.hid (by rw [hW0]; exact (Box.new _ _ _).alloc _)
  have Y0 : Hid (Box W0 (w.heap.size + 1) 26 #[.slice none 0 0, .slice none 0 0]) := Lib.hid (by rw [hW0]; simpa using Box.new (w.alloc (.cells #[.slice A0 n0 c0, .slice A1 n1 c1] 26)) 26 #[.slice none 0 0, .slice none 0 0])
  have HC := Lib.hid (l06Ask A0 A1 n0 n1 c0 c1 d0 d1 W0 n l0 l1 m0 m1 (h0.below hb0))
  have H := Lib.hid (And.intro (And.intro l0 l1) (And.intro h0 h1))
  obtain ⟨r, hr⟩ : ∃ r, levF d0 d1 n v = r := ⟨_, rfl⟩
  rw [hr]
  have HR := Lib.hid hr
  have HW0 := Lib.hid hW0
  clear l0 l1 m0 m1 h0 h1 hW0 hr
  go_enter Try.func26, Try.ntmps26
  go_wp2_with fail
  rw [← HW0.out]
  refine HC.out.mono ?_
  rintro e w1 ⟨rfl, hb1⟩
  have hbq := bt hb0 hb1
  have Y := Lib.hid (Y0.out.step hb1)
  have X := Lib.hid (X0.out.step hb1)
  have s0 := Y.out.cell 0 rfl
  have s1 := Y.out.cell 1 rfl
  have s0z := Y.out.frozen 0
  have s1z := Y.out.frozen 1
  by_cases hc : lineC d0 d1 n = 0
  · have hcb : (lineC d0 d1 n != 0) = false := by simp [hc]
    obtain ⟨hok, hln⟩ := lineC_zero hc
    obtain ⟨q0, q1, -⟩ := okIrq_len hok
    obtain rfl : n0 = 8 := by have := H.out.1.1; omega
    obtain rfl : n1 = 8 := by have := H.out.1.2; omega
    obtain ⟨k, rfl⟩ : ∃ k : Nat, n = k := ⟨n.toNat, by have := lvB_range hln; omega⟩
    have hk : k < 8 := by have := lvB_range hln; omega
    have HLn := Lib.hid (And.intro q0 q1)
    have f0 := X.out.cell 0 rfl
    have f1 := X.out.cell 1 rfl
    by_cases hv : lvB v = true
    · have HO := Lib.hid (l06Own A0 A1 c0 c1 d0 d1 w1 q0 q1 (H.out.2.1.below hbq) (H.out.2.2.below hbq))
      have HRz : Hid (r = (d0.set k v, d1, 0)) := Lib.hid (by rw [← HR.out]; unfold levF; rw [if_pos hc, if_pos hv]; rfl)
      clear HC hok hln X0 Y0 H HW0 q0 q1 hc HR
      go_wp2_with (first | (go_at_call 35; refine (l01In7 _ _).mono ?_; rintro e w' ⟨rfl, rfl⟩; rw [hv]))
      clear s0 s1 s0z s1z f0 f1
      refine HO.out.mono ?_
      rintro e w2 ⟨B0, B1, g0, g1, rfl, O, hb2⟩
      have X1 := X.out.step hb2
      have Y1 := Y.out.step hb2
      have a0 := X1.cell 0 rfl
      have a1 := X1.cell 1 rfl
      have a0z := X1.frozen 0
      have a1z := X1.frozen 1
      obtain ⟨w3, hw3⟩ : ∃ w3, w3 = (w2.setCell ⟨w.heap.size, 0, none⟩ (.slice B0 8 g0)).setCell ⟨w.heap.size, 1, none⟩ (.slice B1 8 g1) := ⟨_, rfl⟩
      have X2 : Box w3 w.heap.size 26 #[.slice B0 8 g0, .slice B1 8 g1] := by rw [hw3]; exact X1.all2 rfl _ _
      have Y2 : Box w3 (w.heap.size + 1) 26 #[.slice none 0 0, .slice none 0 0] := by rw [hw3]; exact Y1.far2 (by omega) _ _
      have OI : OwnI w3 w.heap.size w3.heap.size B0 d0 := by rw [hw3]; exact (O.out.1.two X1 _ _).wideB hbq.size (by rw [size2]; exact Nat.le_refl _)
      have OB : OwnB w3 w.heap.size w3.heap.size B1 d1 := by rw [hw3]; exact (O.out.2.two X1 _ _).wide hbq.size (by rw [size2]; exact Nat.le_refl _)
      have hb3 : Below w.heap.size w w3 := by rw [hw3]; exact below2 (bt hbq hb2) (Nat.le_refl _) _ _
      obtain ⟨bx, mx, fx, rfl, hcx, hfx, hlo, hhi, hrx, hput⟩ := OI.put k (by rw [HLn.out.1]; exact hk)
      have X3 := X2.otherRow hrx (by decide) k (.int .i64 v)
      have Y3 := Y2.otherRow hrx (by decide) k (.int .i64 v)
      have u0 := X3.cell 0 rfl
      have u1 := X3.cell 1 rfl
      have t0 := Y3.cell 0 rfl
      have t1 := Y3.cell 1 rfl
      have t0z := Y3.frozen 0
      have t1z := Y3.frozen 1
      have HFin : Hid (OwnI (w3.setCell ⟨bx, k, none⟩ (.int .i64 v)) w.heap.size w3.heap.size (some ⟨bx, 0, none⟩) (d0.set k v) ∧ OwnB (w3.setCell ⟨bx, k, none⟩ (.int .i64 v)) w.heap.size w3.heap.size B1 d1) := Lib.hid ⟨hput v, OB.setRowI hrx k _⟩
      have HY3 := Lib.hid Y3
      have HB3 := Lib.hid (And.intro (hb3.setCell (p := ⟨bx, k, none⟩) hlo (.int .i64 v)) hw3)
      rw [hw3] at hcx hfx u0 u1 t0 t1 t0z t1z
      generalize d0.getD k 0 = old at hcx
      have hki : (k : Int) < 8 := by omega
      clear X1 Y1 O hb2 hw3 X2 Y2 OI OB hb3 hlo hhi hrx hput X3 Y3 X Y HO fx
      go_wp2
      refine bodyPost_ret (v := .tuple #[.agg #[.slice (some ⟨bx, 0, none⟩) 8 g0, .slice B1 8 g1], .int .i64 0]) (by simp [results, Try.results26, go_sem, t0, t1]) rfl ?_
      rw [← HB3.out.2]
      rw [HRz.out]
      refine ⟨some ⟨bx, 0, none⟩, B1, g0, g1, ?_, Lib.hid ?_, below2 HB3.out.1 (by omega) _ _⟩
      · show _ = Ending.returned (.tuple #[.agg #[.slice (some ⟨bx, 0, none⟩) (d0.set k v).length g0, .slice B1 d1.length g1], .int .i64 0])
        rw [List.length_set, HLn.out.1, HLn.out.2]
      · exact ownIB ((HFin.out.1.two HY3.out _ _).wideB (Nat.le_refl _) (by rw [size2]; simp [World.setCell])) ((HFin.out.2.two HY3.out _ _).wide (Nat.le_refl _) (by rw [size2]; simp [World.setCell]))
    · have hv' : lvB v = false := by simpa using hv
      have HRz : Hid (r = ([], [], 19)) := Lib.hid (by rw [← HR.out]; unfold levF; rw [if_pos hc, if_neg hv])
      clear HR hv hc HC X0 Y0 X H HW0 f0 f1
      go_wp2_with (first | (go_at_call 35; refine (l01In7 _ _).mono ?_; rintro e w' ⟨rfl, rfl⟩; rw [hv']))
      refine bodyPost_ret (v := .tuple #[.agg #[.slice none 0 0, .slice none 0 0], .int .i64 19]) (by simp [results, Try.results26, go_sem, s0, s1]) rfl ?_
      rw [HRz.out]
      exact gives_none 19 (below2 hbq (by omega) _ _)
  · have hcb : (lineC d0 d1 n != 0) = true := by simp [hc]
    have HRz : Hid (r = ([], [], lineC d0 d1 n)) := Lib.hid (by rw [← HR.out]; unfold levF; rw [if_neg hc])
    generalize lineC d0 d1 n = cd at hcb hc HRz
    clear HR HC X0 Y0 X H HW0 hc
    go_wp2
    refine bodyPost_ret (v := .tuple #[.agg #[.slice none 0 0, .slice none 0 0], .int .i64 cd]) (by simp [results, Try.results26, go_sem, s0, s1]) rfl ?_
    rw [HRz.out]
    exact gives_none cd (below2 hbq (by omega) _ _)
theorem arr4 (T : Array Value) (h : T.size = 4) : ∃ t0 t1 t2 t3 : Value, T = #[t0, t1, t2, t3] := by
  obtain ⟨l⟩ := T
  match l, h with
  | [t0, t1, t2, t3], _ => exact ⟨t0, t1, t2, t3, rfl⟩

theorem madeRow6 {w : World} {b n : Nat} {v : Value} {t : TypeId} (h : w.heap[b]? = some (.cells (madeCells #[v] n) t (0, 0))) : w.rowIs b t n (fun _ => v) := by
  obtain ⟨cs, hc, hs, hi⟩ := World.rowIs_made w v n t
  have e : (w.alloc (.cells (madeCells #[v] n) t)).heap[w.heap.size]? = some (.cells (madeCells #[v] n) t (0, 0)) := Box.new w t (madeCells #[v] n)
  rw [e] at hc
  injection hc with hc
  injection hc with hc _
  exact ⟨cs, by rw [h, hc], hs, hi⟩
theorem madeI_own {w : World} {b n L R : Nat} (h : Box w b 3 (madeCells #[.int .i64 0] n)) (hl : L ≤ b) (hr : b < R) : OwnI w L R (some ⟨b, 0, none⟩) (List.replicate n 0) :=
  .inr ⟨b, n, fun _ => .int .i64 0, rfl, hl, hr, by simp, madeRow6 h, fun i hi => by
    rw [List.getD_eq_getElem?_getD, List.getElem?_replicate, if_pos (by simpa using hi)]; rfl⟩
theorem madeB_own {w : World} {b n L R : Nat} (h : Box w b 4 (madeCells #[.bool false] n)) (hl : L ≤ b) (hr : b < R) : OwnB w L R (some ⟨b, 0, none⟩) (List.replicate n false) :=
  .inr ⟨b, n, fun _ => .bool false, rfl, hl, hr, by simp, madeRow6 h, fun i hi => by
    rw [List.getD_eq_getElem?_getD, List.getElem?_replicate, if_pos (by simpa using hi)]; rfl⟩
def RW (w W : World) : Prop := Below w.heap.size w W ∧ ∃ cs : Array Value, cs.size = 2 ∧ Box W w.heap.size 26 cs
theorem RW.step {w W W' : World} (h : RW w W) (k : Below W.heap.size W W') : RW w W' := by
  obtain ⟨a, cs, hs, b⟩ := h
  exact ⟨a.trans (k.mono a.size), cs, hs, b.step k⟩
theorem RW.set {w W : World} (h : RW w W) (j : Nat) (v : Value) : RW w (W.setCell ⟨w.heap.size, j, none⟩ v) := by
  obtain ⟨a, cs, hs, b⟩ := h
  exact ⟨a.setCell (p := ⟨w.heap.size, j, none⟩) (Nat.le_refl _) v, _, by simpa using hs, b.set j v⟩
def nwF (M : Nat) : Nat → (Nat → Value) → World → Prop
  | 0, t, w => ∃ b, t 1 = .slice (some ⟨b, 0, none⟩) 8 8 ∧ Box w b 3 (madeCells #[.int .i64 0] 8) ∧ M ≤ b
  | 1, t, w => ∃ b, t 2 = .slice (some ⟨b, 0, none⟩) 8 8 ∧ Box w b 4 (madeCells #[.bool false] 8) ∧ M ≤ b
  | 2, t, _ => ∃ b b1, t 1 = .slice (some ⟨b, 0, none⟩) 8 8 ∧ t 2 = .slice (some ⟨b1, 0, none⟩) 8 8 ∧ t 3 = .agg #[.slice (some ⟨b, 0, none⟩) 8 8, .slice (some ⟨b1, 0, none⟩) 8 8]
  | 3, t, w => ∃ b b1, t 1 = .slice (some ⟨b, 0, none⟩) 8 8 ∧ t 2 = .slice (some ⟨b1, 0, none⟩) 8 8 ∧ Box w M 26 #[.slice (some ⟨b, 0, none⟩) 8 8, .slice (some ⟨b1, 0, none⟩) 8 8]
  | _, _, _ => True
theorem boxNe {w : World} {b b' : Nat} {t t' : TypeId} {cs cs' : Array Value} (X : Box w b t cs) (Y : Box w b' t' cs') (ht : t ≠ t') : b ≠ b' := by
  rintro rfl
  have : some (Obj.cells cs t (0, 0)) = some (Obj.cells cs' t' (0, 0)) := X.symm.trans Y
  injection this with this
  injection this with _ this
  exact ht this
section
variable {M : Nat} {w w' : World}
theorem nwF_below (k : Below w.heap.size w w') : ∀ (j : Nat) (t : Nat → Value), nwF M j t w → nwF M j t w'
  | 0, _, ⟨b, e, h, q⟩ => ⟨b, e, h.step k, q⟩
  | 1, _, ⟨b, e, h, q⟩ => ⟨b, e, h.step k, q⟩
  | 2, _, h => h
  | 3, _, ⟨b, b1, e, e2, h⟩ => ⟨b, b1, e, e2, h.step k⟩
  | _ + 4, _, _ => trivial
theorem nwF_store {ys : Array Value} (Y : Box w M 26 ys) (i : Nat) (u : Value) : ∀ (j : Nat) (t : Nat → Value), j ≠ 3 → nwF M j t w → nwF M j t (w.setCell ⟨M, i, none⟩ u)
  | 0, _, _, ⟨b, e, h, q⟩ => ⟨b, e, h.far (p := ⟨M, i, none⟩) (boxNe h Y (by decide)) u, q⟩
  | 1, _, _, ⟨b, e, h, q⟩ => ⟨b, e, h.far (p := ⟨M, i, none⟩) (boxNe h Y (by decide)) u, q⟩
  | 2, _, _, h => h
  | 3, _, n, _ => (n rfl).elim
  | _ + 4, _, _, _ => trivial
end
set_option maxRecDepth 100000 in
set_option maxHeartbeats 2000000 in
theorem specNewIrq (w : World) : Calls Try.prog 19 #[] w (GivesQ zL zP w) := by
  obtain ⟨W0, hW0⟩ : ∃ W0, W0 = (w.alloc (.cells #[.slice none 0 0, .slice none 0 0] 26)) := ⟨_, rfl⟩
  have R0 : RW w W0.drew := ⟨by rw [hW0]; exact (alloc_below _ _).drew, _, rfl, show Box W0 _ _ _ by rw [hW0]; exact Box.new _ _ _⟩
  have hmk0 : ∀ W : World, (Instr.makeSlice 23 (.int .i64 8) (.int .i64 8)).run Try.prog W = .ok (.slice (some ⟨W.heap.size, 0, none⟩) 8 8) (W.alloc (.cells (madeCells #[.int .i64 0] 8) 3)) := fun W => run_make_row' (P := Try.prog) 23 3 (.int .i64 0) 8 Try.underlying23 infoI rfl .i64 .i64 8 (by omega) (by omega) W
  have hmk1 : ∀ W : World, (Instr.makeSlice 24 (.int .i64 8) (.int .i64 8)).run Try.prog W = .ok (.slice (some ⟨W.heap.size, 0, none⟩) 8 8) (W.alloc (.cells (madeCells #[.bool false] 8) 4)) := fun W => run_make_row' (P := Try.prog) 24 4 (.bool false) 1 Try.underlying24 infoB rfl .i64 .i64 8 (by omega) (by omega) W
  have HW0 := Lib.hid hW0
  clear hW0
  go_enter Try.func19, Try.ntmps19
  go_wp2
  rw [← HW0.out]
  refine wp_region_facts (by kernel_rfl) [[1], [2], [1, 2, 3], [1, 2]] [[], [], [0, 1], [0, 1, 2]] [0] (by kernel_rfl) (RW w) (nwF w.heap.size) R0 ?_ ?_
  · refine ⟨?_, ?_, ?_, ?_, trivial⟩
    · intro T W hT hs hC hF K hK
      obtain ⟨t0, t1, t2, t3, rfl⟩ := arr4 T hT
      obtain rfl : t0 = .pointer (some ⟨w.heap.size, 0, none⟩) := hs 0 (by decide)
      clear hF hs hT
      have k := alloc_below W (.cells (madeCells #[.int .i64 0] 8) 3)
      have hm := hmk0 W
      go_simp
      exact hK.out _ _ (hC.step k) (fun j t _ h => nwF_below k j t h) ⟨W.heap.size, rfl, Box.new _ _ _, hC.1.size⟩
    · intro T W hT hs hC hF K hK
      obtain ⟨t0, t1, t2, t3, rfl⟩ := arr4 T hT
      obtain rfl : t0 = .pointer (some ⟨w.heap.size, 0, none⟩) := hs 0 (by decide)
      clear hF hs hT
      have k := alloc_below W (.cells (madeCells #[.bool false] 8) 4)
      have hm := hmk1 W
      go_simp
      exact hK.out _ _ (hC.step k) (fun j t _ h => nwF_below k j t h) ⟨W.heap.size, rfl, Box.new _ _ _, hC.1.size⟩
    · intro T W hT hs hC hF K hK
      obtain ⟨t0, t1, t2, t3, rfl⟩ := arr4 T hT
      obtain rfl : t0 = .pointer (some ⟨w.heap.size, 0, none⟩) := hs 0 (by decide)
      have f0 := hF 0 (by decide)
      simp only [nwF, mask] at f0
      have f1 := hF 1 (by decide)
      simp only [nwF, mask] at f1
      clear hF hs hT
      obtain ⟨b, e1, B0, q0⟩ := f0
      obtain ⟨b1, e2, B1, q1⟩ := f1
      subst e1 e2
      clear B0 B1
      go_simp
      exact hK.out _ W hC (fun _ _ _ h => h) ⟨b, b1, rfl, rfl, rfl⟩
    · intro T W hT hs hC hF K hK
      obtain ⟨t0, t1, t2, t3, rfl⟩ := arr4 T hT
      obtain rfl : t0 = .pointer (some ⟨w.heap.size, 0, none⟩) := hs 0 (by decide)
      have f2 := hF 2 (by decide)
      simp only [nwF, mask] at f2
      clear hF hs hT
      obtain ⟨b, b1, e1, e2, e3⟩ := f2
      subst e1 e2 e3
      obtain ⟨hCa, ys, hys, Y⟩ := hC
      have y0 := YV2.of Y hys 0 (by omega)
      have y1 := YV2.of Y hys 1 (by omega)
      have z0 := Y.frozen 0
      have z1 := Y.frozen 1
      have HYs := Lib.hid (And.intro hys Y)
      have hC : RW w W := ⟨hCa, ys, hys, Y⟩
      clear hys Y hCa
      go_simp
      exact hK.out undef _ ((hC.set 0 _).set 1 _) (fun j t n h => nwF_store (HYs.out.2.set 0 _) 1 _ j t n (nwF_store HYs.out.2 0 _ j t n h)) ⟨b, b1, rfl, rfl, HYs.out.2.all2 HYs.out.1 _ _⟩
  · intro T W hT hs hC hF
    obtain ⟨t0, t1, t2, t3, rfl⟩ := arr4 T hT
    obtain rfl : t0 = .pointer (some ⟨w.heap.size, 0, none⟩) := hs 0 (by decide)
    obtain ⟨b, e1, B0, q0⟩ := hF 0 (by decide)
    obtain ⟨b1, e2, B1, q1⟩ := hF 1 (by decide)
    obtain ⟨b', b1', f1, f2, Y⟩ := hF 3 (by decide)
    have E1 : Value.slice (some ⟨b, 0, none⟩) 8 8 = .slice (some ⟨b', 0, none⟩) 8 8 := (show t1 = _ from e1).symm.trans f1
    have E2 : Value.slice (some ⟨b1, 0, none⟩) 8 8 = .slice (some ⟨b1', 0, none⟩) 8 8 := (show t2 = _ from e2).symm.trans f2
    obtain rfl : b = b' := by injection E1 with E1; injection E1 with E1; injection E1
    obtain rfl : b1 = b1' := by injection E2 with E2; injection E2 with E2; injection E2
    have y0 := Y.cell 0 rfl
    have y1 := Y.cell 1 rfl
    have HR : Hid (OwnI W w.heap.size W.heap.size (some ⟨b, 0, none⟩) zL ∧ OwnB W w.heap.size W.heap.size (some ⟨b1, 0, none⟩) zP) := Lib.hid ⟨madeI_own B0 q0 B0.lt, madeB_own B1 q1 B1.lt⟩
    have HBw := Lib.hid hC.1
    clear e1 e2 f1 f2 E1 E2 B0 B1 Y hF hs hT hC R0
    go_wp2
    refine bodyPost_ret (v := .agg #[.slice (some ⟨b, 0, none⟩) 8 8, .slice (some ⟨b1, 0, none⟩) 8 8]) (by simp [results, Try.results19, go_sem, y0, y1]) rfl ?_
    exact ⟨_, _, _, _, rfl, HR, HBw.out⟩
end Go.Proofs.Ytamfapmkdojhcaa

/- The interrupt controller's functions on leaves. Written by gen_irqapi.py. -/
namespace Go.Proofs.Ytamfapmkdojhcaa
open Go.RowKit
theorem pendF_len (ls : List Int) (ps : List Bool) (n : Int) (x : Bool) : lenA [.I (pendF ls ps n x).1, .B (pendF ls ps n x).2.1] ≤ 4294967296 := by
  unfold pendF
  split
  · obtain ⟨h1, h2, -⟩ := okIrq_len (lineC_zero (by assumption)).1
    simp only [lenA, Lf.len, List.length_set]; omega
  · simp [lenA, Lf.len]
theorem levF_len (ls : List Int) (ps : List Bool) (n v : Int) : lenA [.I (levF ls ps n v).1, .B (levF ls ps n v).2.1] ≤ 4294967296 := by
  unfold levF
  split
  · obtain ⟨h1, h2, -⟩ := okIrq_len (lineC_zero (by assumption)).1
    split
    · simp only [lenA, Lf.len, List.length_set]; omega
    · simp [lenA, Lf.len]
  · simp [lenA, Lf.len]
section
variable (A0 A1 : Option Addr) (c0 c1 : Nat) (d0 : List Int) (d1 : List Bool)
set_option maxRecDepth 100000 in
theorem specIrqOKA (w : World) (h : RepA w [.slice A0 d0.length c0, .slice A1 d1.length c1] [.I d0, .B d1]) (_c : CapA [.slice A0 d0.length c0, .slice A1 d1.length c1]) (z : szA [.I d0, .B d1] ≤ 1048576) :
    Calls Try.prog 24 #[.agg #[.slice A0 d0.length c0, .slice A1 d1.length c1]] w fun e w' => e = .returned (.bool (okIrq d0 d1)) ∧ Below w.heap.size w w' := by
  simp only [szA, Lf.sz] at z
  exact specIrqOK A0 A1 _ _ c0 c1 d0 d1 w rfl rfl (by unfold maxLen; omega) (by unfold maxLen; omega) (repI h.1)
set_option maxRecDepth 100000 in
theorem specNextIrqA (a : Int) (w : World) (h : RepA w [.slice A0 d0.length c0, .slice A1 d1.length c1] [.I d0, .B d1]) (_c : CapA [.slice A0 d0.length c0, .slice A1 d1.length c1]) (z : szA [.I d0, .B d1] ≤ 1048576) :
    Calls Try.prog 13 #[.agg #[.slice A0 d0.length c0, .slice A1 d1.length c1], .int .i64 a] w fun e w' => e = .returned (.tuple #[.int .i64 (nxtF d0 d1 a).1, .int .i64 (nxtF d0 d1 a).2]) ∧ Below w.heap.size w w' := by
  simp only [szA, Lf.sz] at z
  exact specNextIrq A0 A1 _ _ c0 c1 d0 d1 w a rfl rfl (by unfold maxLen; omega) (by unfold maxLen; omega) (repI h.1) (repB h.2.1)
set_option maxRecDepth 100000 in
theorem specSetLevelA (n v : Int) (w : World) (h : RepA w [.slice A0 d0.length c0, .slice A1 d1.length c1] [.I d0, .B d1]) (_c : CapA [.slice A0 d0.length c0, .slice A1 d1.length c1]) (z : szA [.I d0, .B d1] ≤ 1048576) :
    Calls Try.prog 26 #[.agg #[.slice A0 d0.length c0, .slice A1 d1.length c1], .int .i64 n, .int .i64 v] w (fun e w' => ∃ rA0 rA1 rc0 rc1, e = .returned (.tuple #[.agg #[.slice rA0 (levF d0 d1 n v).1.length rc0, .slice rA1 (levF d0 d1 n v).2.1.length rc1], .int .i64 (levF d0 d1 n v).2.2]) ∧ Hid (OwnA w' w.heap.size w'.heap.size [.slice rA0 (levF d0 d1 n v).1.length rc0, .slice rA1 (levF d0 d1 n v).2.1.length rc1] [.I (levF d0 d1 n v).1, .B (levF d0 d1 n v).2.1]) ∧ Below w.heap.size w w') := by
  simp only [szA, Lf.sz] at z
  exact specSetLevel A0 A1 _ _ c0 c1 d0 d1 w n v rfl rfl (by unfold maxLen; omega) (by unfold maxLen; omega) (repI h.1) (repB h.2.1)
set_option maxRecDepth 100000 in
theorem specRaiseA (n : Int) (w : World) (h : RepA w [.slice A0 d0.length c0, .slice A1 d1.length c1] [.I d0, .B d1]) (_c : CapA [.slice A0 d0.length c0, .slice A1 d1.length c1]) (z : szA [.I d0, .B d1] ≤ 1048576) :
    Calls Try.prog 27 #[.agg #[.slice A0 d0.length c0, .slice A1 d1.length c1], .int .i64 n] w (fun e w' => ∃ rA0 rA1 rc0 rc1, e = .returned (.tuple #[.agg #[.slice rA0 (pendF d0 d1 n true).1.length rc0, .slice rA1 (pendF d0 d1 n true).2.1.length rc1], .int .i64 (pendF d0 d1 n true).2.2]) ∧ Hid (OwnA w' w.heap.size w'.heap.size [.slice rA0 (pendF d0 d1 n true).1.length rc0, .slice rA1 (pendF d0 d1 n true).2.1.length rc1] [.I (pendF d0 d1 n true).1, .B (pendF d0 d1 n true).2.1]) ∧ Below w.heap.size w w') := by
  simp only [szA, Lf.sz] at z
  exact specRaise A0 A1 _ _ c0 c1 d0 d1 w n rfl rfl (by unfold maxLen; omega) (by unfold maxLen; omega) (repI h.1) (repB h.2.1)
set_option maxRecDepth 100000 in
theorem specAckA (n : Int) (w : World) (h : RepA w [.slice A0 d0.length c0, .slice A1 d1.length c1] [.I d0, .B d1]) (_c : CapA [.slice A0 d0.length c0, .slice A1 d1.length c1]) (z : szA [.I d0, .B d1] ≤ 1048576) :
    Calls Try.prog 28 #[.agg #[.slice A0 d0.length c0, .slice A1 d1.length c1], .int .i64 n] w (fun e w' => ∃ rA0 rA1 rc0 rc1, e = .returned (.tuple #[.agg #[.slice rA0 (pendF d0 d1 n false).1.length rc0, .slice rA1 (pendF d0 d1 n false).2.1.length rc1], .int .i64 (pendF d0 d1 n false).2.2]) ∧ Hid (OwnA w' w.heap.size w'.heap.size [.slice rA0 (pendF d0 d1 n false).1.length rc0, .slice rA1 (pendF d0 d1 n false).2.1.length rc1] [.I (pendF d0 d1 n false).1, .B (pendF d0 d1 n false).2.1]) ∧ Below w.heap.size w w') := by
  simp only [szA, Lf.sz] at z
  exact specAck A0 A1 _ _ c0 c1 d0 d1 w n rfl rfl (by unfold maxLen; omega) (by unfold maxLen; omega) (repI h.1) (repB h.2.1)
set_option maxRecDepth 100000 in
theorem implIrqOKA (w : World) (h : RepA w [.slice A0 d0.length c0, .slice A1 d1.length c1] [.I d0, .B d1]) (_c : CapA [.slice A0 d0.length c0, .slice A1 d1.length c1]) (z : szA [.I d0, .B d1] ≤ 1048576) :
    Calls Try.prog 17 #[.agg #[.slice A0 d0.length c0, .slice A1 d1.length c1]] w fun e w' => e = .returned (.bool (okIrq d0 d1)) ∧ Below w.heap.size w w' := by
  simp only [szA, Lf.sz] at z
  exact implIrqOK A0 A1 _ _ c0 c1 d0 d1 w rfl rfl (by unfold maxLen; omega) (by unfold maxLen; omega) (repI h.1)
set_option maxRecDepth 100000 in
theorem implNextIrqA (a : Int) (w : World) (h : RepA w [.slice A0 d0.length c0, .slice A1 d1.length c1] [.I d0, .B d1]) (_c : CapA [.slice A0 d0.length c0, .slice A1 d1.length c1]) (z : szA [.I d0, .B d1] ≤ 1048576) :
    Calls Try.prog 12 #[.agg #[.slice A0 d0.length c0, .slice A1 d1.length c1], .int .i64 a] w fun e w' => e = .returned (.tuple #[.int .i64 (nxtF d0 d1 a).1, .int .i64 (nxtF d0 d1 a).2]) ∧ Below w.heap.size w w' := by
  simp only [szA, Lf.sz] at z
  exact implNextIrq A0 A1 _ _ c0 c1 d0 d1 w a rfl rfl (by unfold maxLen; omega) (by unfold maxLen; omega) (repI h.1) (repB h.2.1)
set_option maxRecDepth 100000 in
theorem implSetLevelA (n v : Int) (w : World) (h : RepA w [.slice A0 d0.length c0, .slice A1 d1.length c1] [.I d0, .B d1]) (_c : CapA [.slice A0 d0.length c0, .slice A1 d1.length c1]) (z : szA [.I d0, .B d1] ≤ 1048576) :
    Calls Try.prog 15 #[.agg #[.slice A0 d0.length c0, .slice A1 d1.length c1], .int .i64 n, .int .i64 v] w (fun e w' => ∃ rA0 rA1 rc0 rc1, e = .returned (.tuple #[.agg #[.slice rA0 (levF d0 d1 n v).1.length rc0, .slice rA1 (levF d0 d1 n v).2.1.length rc1], .int .i64 (levF d0 d1 n v).2.2]) ∧ Hid (OwnA w' w.heap.size w'.heap.size [.slice rA0 (levF d0 d1 n v).1.length rc0, .slice rA1 (levF d0 d1 n v).2.1.length rc1] [.I (levF d0 d1 n v).1, .B (levF d0 d1 n v).2.1]) ∧ Below w.heap.size w w') := by
  simp only [szA, Lf.sz] at z
  exact implSetLevel A0 A1 _ _ c0 c1 d0 d1 w n v rfl rfl (by unfold maxLen; omega) (by unfold maxLen; omega) (repI h.1) (repB h.2.1)
set_option maxRecDepth 100000 in
theorem implRaiseA (n : Int) (w : World) (h : RepA w [.slice A0 d0.length c0, .slice A1 d1.length c1] [.I d0, .B d1]) (_c : CapA [.slice A0 d0.length c0, .slice A1 d1.length c1]) (z : szA [.I d0, .B d1] ≤ 1048576) :
    Calls Try.prog 14 #[.agg #[.slice A0 d0.length c0, .slice A1 d1.length c1], .int .i64 n] w (fun e w' => ∃ rA0 rA1 rc0 rc1, e = .returned (.tuple #[.agg #[.slice rA0 (pendF d0 d1 n true).1.length rc0, .slice rA1 (pendF d0 d1 n true).2.1.length rc1], .int .i64 (pendF d0 d1 n true).2.2]) ∧ Hid (OwnA w' w.heap.size w'.heap.size [.slice rA0 (pendF d0 d1 n true).1.length rc0, .slice rA1 (pendF d0 d1 n true).2.1.length rc1] [.I (pendF d0 d1 n true).1, .B (pendF d0 d1 n true).2.1]) ∧ Below w.heap.size w w') := by
  simp only [szA, Lf.sz] at z
  exact implRaise A0 A1 _ _ c0 c1 d0 d1 w n rfl rfl (by unfold maxLen; omega) (by unfold maxLen; omega) (repI h.1) (repB h.2.1)
set_option maxRecDepth 100000 in
theorem implAckA (n : Int) (w : World) (h : RepA w [.slice A0 d0.length c0, .slice A1 d1.length c1] [.I d0, .B d1]) (_c : CapA [.slice A0 d0.length c0, .slice A1 d1.length c1]) (z : szA [.I d0, .B d1] ≤ 1048576) :
    Calls Try.prog 16 #[.agg #[.slice A0 d0.length c0, .slice A1 d1.length c1], .int .i64 n] w (fun e w' => ∃ rA0 rA1 rc0 rc1, e = .returned (.tuple #[.agg #[.slice rA0 (pendF d0 d1 n false).1.length rc0, .slice rA1 (pendF d0 d1 n false).2.1.length rc1], .int .i64 (pendF d0 d1 n false).2.2]) ∧ Hid (OwnA w' w.heap.size w'.heap.size [.slice rA0 (pendF d0 d1 n false).1.length rc0, .slice rA1 (pendF d0 d1 n false).2.1.length rc1] [.I (pendF d0 d1 n false).1, .B (pendF d0 d1 n false).2.1]) ∧ Below w.heap.size w w') := by
  simp only [szA, Lf.sz] at z
  exact implAck A0 A1 _ _ c0 c1 d0 d1 w n rfl rfl (by unfold maxLen; omega) (by unfold maxLen; omega) (repI h.1) (repB h.2.1)
end
set_option maxRecDepth 100000 in
theorem implNewIrqA (w : World) : Calls Try.prog 18 #[] w (fun e w' => ∃ rA0 rA1 rc0 rc1, e = .returned (.agg #[.slice rA0 zL.length rc0, .slice rA1 zP.length rc1]) ∧ Hid (OwnA w' w.heap.size w'.heap.size [.slice rA0 zL.length rc0, .slice rA1 zP.length rc1] [.I zL, .B zP]) ∧ Below w.heap.size w w') := implNewIrq w
set_option maxRecDepth 100000 in
theorem specNewIrqA (w : World) : Calls Try.prog 19 #[] w (fun e w' => ∃ rA0 rA1 rc0 rc1, e = .returned (.agg #[.slice rA0 zL.length rc0, .slice rA1 zP.length rc1]) ∧ Hid (OwnA w' w.heap.size w'.heap.size [.slice rA0 zL.length rc0, .slice rA1 zP.length rc1] [.I zL, .B zP]) ∧ Below w.heap.size w w') := (specNewIrq w).mono fun _ _ h => h.irq rfl rfl
end Go.Proofs.Ytamfapmkdojhcaa

/- Contracts of sectors, fateOf, tear, settle: what a crash makes of a disk. -/
namespace Go.Proofs.Ytamfapmkdojhcaa
open Go.RowKit

/-- n empty strings, as cells. -/
def zS (n : Nat) : List Value := List.replicate n (.string ByteArray.empty)
theorem zS_len (n : Nat) : (zS n).length = n := by unfold zS; rw [List.length_replicate]
theorem made_zS (n : Nat) : madeCells #[.string ByteArray.empty] n = (zS n).toArray := by
  apply Array.ext
  · simp [size_madeCells, zS_len]
  · intro i h1 h2
    simp [madeCells, zS, Nat.mod_one]
set_option maxRecDepth 100000 in
theorem szStr : (Try.prog.info? 9).map (·.size) = some 1 := by kernel_rfl
theorem row_of_list {w : World} {b : Nat} {t : TypeId} {n : Nat} {ss : List ByteArray} (hl : ss.length = n) (h : w.heap[b]? = some (.cells (ss.map Value.string).toArray t (0, 0))) : w.rowIs b t n (fun i => .string (ss.getD i ByteArray.empty)) :=
  ⟨_, h, by simp [hl], fun i hi => by
    have hi' : i < ss.length := by omega
    simp [List.getD_eq_getElem?_getD, hi']⟩

/-- The cells of a slice of strings. -/
def cellsS (ss : List ByteArray) : List Value := ss.map Value.string
theorem cellsS_len (ss : List ByteArray) : (cellsS ss).length = ss.length := by simp [cellsS]
theorem cellsS_one (ss : List ByteArray) : ∀ v ∈ cellsS ss, v.oneCell' = true := fun v hv => by
  obtain ⟨s, _, rfl⟩ := List.mem_map.1 hv
  rfl
theorem StrL.src {w : World} {A : Option Addr} {ss : List ByteArray} (h : StrL w A ss) (hp : 0 < (cellsS ss).length) : ∃ ad, A = some ad ∧ ∀ j v, (cellsS ss)[j]? = some v → w.cell? (ad.add j) = some v := by
  rw [cellsS_len] at hp
  obtain ⟨b, off, e, _⟩ := h 0 hp
  refine ⟨⟨b, off, none⟩, e, fun j v hj => ?_⟩
  have hj' : j < ss.length := by have := (List.getElem?_eq_some_iff.1 hj).1; simpa [cellsS] using this
  obtain ⟨b', off', e', hc⟩ := h j hj'
  rw [e] at e'
  injection e' with e'
  injection e' with e1 e2
  subst e1 e2
  have hv : v = Value.string (ss.getD j ByteArray.empty) := by
    unfold cellsS at hj
    rw [List.getElem?_map, List.getElem?_eq_getElem hj', Option.map_some] at hj
    rw [List.getD_eq_getElem?_getD, List.getElem?_eq_getElem hj']
    exact (Option.some.inj hj).symm
  rw [hv, ← hc]
  unfold Addr.add
  by_cases h0 : j = 0
  · subst h0; simp
  · rw [if_neg h0]

/-- The fate of write i. -/
def fateAt (fates : List Int) (i : Nat) : Int := if fates.length = 0 then 0 else fates.getD (i % fates.length) 0

/-- A torn write: the first half of the data, then what was there behind it. -/
def tearOf (old data : ByteArray) : ByteArray := if old.size ≤ data.size / 2 then data.extract 0 (data.size / 2) else data.extract 0 (data.size / 2) ++ old.extract (data.size / 2) old.size

theorem extract_size (s : ByteArray) (a b : Nat) : (s.extract a b).size = min b s.size - a := by simp [ByteArray.size_extract]
theorem tearOf_size (old data : ByteArray) (h1 : old.size ≤ 100) (h2 : data.size ≤ 100) : (tearOf old data).size ≤ 100 := by
  unfold tearOf
  split
  · rw [extract_size]; omega
  · rw [ByteArray.size_append, extract_size, extract_size]; omega
theorem getD_set (l : List ByteArray) (p j : Nat) (x : ByteArray) (h : p < l.length) : (l.set p x).getD j ByteArray.empty = if j = p then x else l.getD j ByteArray.empty := by
  simp only [List.getD_eq_getElem?_getD, List.getElem?_set]
  by_cases e : j = p
  · subst e; rw [if_pos rfl, if_pos rfl, if_pos h]; rfl
  · rw [if_neg (fun h => e h.symm), if_neg e]
/-- A store into the row of strings. -/
theorem row_set {w : World} {b p : Nat} {t : TypeId} {n : Nat} {l : List ByteArray} {x : ByteArray} (h : w.rowIs b t n (fun i => .string (l.getD i ByteArray.empty))) (hp : p < l.length) : (w.setCell ⟨b, p, none⟩ (.string x)).rowIs b t n (fun i => .string ((l.set p x).getD i ByteArray.empty)) :=
  (h.set p (.string x)).congr (fun j _ => by
    rw [getD_set l p j x hp]
    by_cases e : j = p
    · rw [if_pos e, if_pos e]
    · rw [if_neg e, if_neg e])
theorem getD_small {l : List ByteArray} (h : ∀ s ∈ l, s.size ≤ 100) (p : Nat) : (l.getD p ByteArray.empty).size ≤ 100 := by
  rw [List.getD_eq_getElem?_getD]
  rcases Nat.lt_or_ge p l.length with hlt | hge
  · rw [List.getElem?_eq_getElem hlt]; exact h _ (List.getElem_mem _)
  · rw [List.getElem?_eq_none hge]; exact Nat.zero_le _

/-- A disk that DiskOK lets by. -/
structure Ok (ss : List ByteArray) (ws : List (Int × ByteArray)) : Prop where
  n48 : ss.length = 48
  m60 : ws.length ≤ 60
  small : ∀ s ∈ ss, s.size ≤ 100
  smallW : ∀ x ∈ ws, x.2.size ≤ 100
  at_ : ∀ x ∈ ws, 0 ≤ x.1 ∧ x.1 ≤ 47
theorem ok_of {ss : List ByteArray} {ws : List (Int × ByteArray)} (h : okDisk ss ws = true) : Ok ss ws := by
  unfold okDisk at h
  simp only [Bool.and_eq_true, decide_eq_true_eq, List.all_eq_true] at h
  obtain ⟨⟨h1, h2⟩, h3, h4⟩ := h
  refine ⟨h1, h2, fun s hs => ?_, fun x hx => ?_, fun x hx => ?_⟩
  · have := h3 s hs; unfold okSt at this; simpa using this
  · have := h4 x hx; unfold okWr at this; simp at this; exact this.2
  · have := h4 x hx; unfold okWr at this; simp at this; exact secB_range this.1

end Go.Proofs.Ytamfapmkdojhcaa
