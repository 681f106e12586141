/- The program's changes of a controller: withPending, SetLevel, Raise, Ack; NewIrq. Written by gen_irqimpl.py. -/
import Derived.Test.YtamfapmkdojhcaaCtl
namespace Go.Proofs.Ytamfapmkdojhcaa
open Go.RowKit

def pendF (ls : List Int) (ps : List Bool) (n : Int) (x : Bool) : List Int × List Bool × Int := if lineC ls ps n = 0 then (ls, ps.set n.toNat x, 0) else ([], [], lineC ls ps n)
def levF (ls : List Int) (ps : List Bool) (n v : Int) : List Int × List Bool × Int := if lineC ls ps n = 0 then (if lvB v = true then (ls.set n.toNat v, ps, 0) else ([], [], 19)) else ([], [], lineC ls ps n)
theorem lineC_zero {ls : List Int} {ps : List Bool} {n : Int} (h : lineC ls ps n = 0) : okIrq ls ps = true ∧ lvB n = true := by
  unfold lineC at h
  split at h
  · split at h
    · exact ⟨by assumption, by assumption⟩
    · omega
  · omega
/-- A controller of the call's own, and a code. -/
def GivesIrqCode (r : List Int × List Bool × Int) (w : World) (e : Ending) (w' : World) : Prop :=
  ∃ A0 A1 c0 c1, e = .returned (.tuple #[.agg #[.slice A0 r.1.length c0, .slice A1 r.2.1.length c1], .int .i64 r.2.2]) ∧ Hid (OwnA w' w.heap.size w'.heap.size [.slice A0 r.1.length c0, .slice A1 r.2.1.length c1] [.I r.1, .B r.2.1]) ∧ Below w.heap.size w w'
theorem ownA2_nil (w : World) (L R : Nat) : OwnA w L R [.slice none ([] : List Int).length 0, .slice none ([] : List Bool).length 0] [.I [], .B []] := ownIB (.inl rfl) (.inl rfl)
theorem gives_none {w w' : World} (c : Int) (hb : Below w.heap.size w w') : GivesIrqCode ([], [], c) w (.returned (.tuple #[.agg #[.slice none 0 0, .slice none 0 0], .int .i64 c])) w' := ⟨none, none, 0, 0, rfl, Lib.hid (ownA2_nil _ _ _), hb⟩

set_option maxRecDepth 100000 in
set_option maxHeartbeats 4000000 in
theorem withPending (A0 A1 : Option Addr) (n0 n1 c0 c1 : Nat) (d0 : List Int) (d1 : List Bool) (w : World) (n : Int) (x : Bool) (l0 : d0.length = n0) (l1 : d1.length = n1) (m0 : n0 ≤ maxLen) (m1 : n1 ≤ maxLen) (h0 : IntL w A0 d0) (h1 : BoolL w A1 d1) :
    Calls Try.prog 37 #[.agg #[.slice A0 n0 c0, .slice A1 n1 c1], .int .i64 n, .bool x] w (GivesIrqCode (pendF d0 d1 n x) w) := by
  obtain ⟨W0, hW0⟩ : ∃ W0, W0 = ((w.alloc (.cells #[.slice A0 n0 c0, .slice A1 n1 c1] 26)).alloc (.cells #[.slice none 0 0, .slice none 0 0] 26)) := ⟨_, rfl⟩
  have hb0 : Below w.heap.size w W0 := by rw [hW0]; exact bt (alloc_below _ _) (alloc_below _ _)
  have X0 : Hid (Box W0 w.heap.size 26 #[.slice A0 n0 c0, .slice A1 n1 c1]) := Lib.hid (by rw [hW0]; exact (Box.new _ _ _).alloc _)
  have Y0 : Hid (Box W0 (w.heap.size + 1) 26 #[.slice none 0 0, .slice none 0 0]) := Lib.hid (by rw [hW0]; simpa using Box.new (w.alloc (.cells #[.slice A0 n0 c0, .slice A1 n1 c1] 26)) 26 #[.slice none 0 0, .slice none 0 0])
  have HC := Lib.hid (checkLine A0 A1 n0 n1 c0 c1 d0 d1 W0 n l0 l1 m0 m1 (h0.below hb0))
  have H := Lib.hid (And.intro (And.intro l0 l1) (And.intro h0 h1))
  obtain ⟨r, hr⟩ : ∃ r, pendF d0 d1 n x = r := ⟨_, rfl⟩
  rw [hr]
  have HR := Lib.hid hr
  have HW0 := Lib.hid hW0
  clear l0 l1 m0 m1 h0 h1 hW0 hr
  go_enter Try.func37, Try.ntmps37
  go_wp2_with fail
  rw [← HW0.out]
  refine HC.out.mono ?_
  rintro e w1 ⟨rfl, hb1⟩
  have hb := bt hb0 hb1
  have Y1 := Lib.hid (Y0.out.step hb1)
  have s0 := Y1.out.cell 0 rfl
  have s1 := Y1.out.cell 1 rfl
  have s0z := Y1.out.frozen 0
  have s1z := Y1.out.frozen 1
  by_cases hc : lineC d0 d1 n = 0
  · have hcb : (lineC d0 d1 n != 0) = false := by simp [hc]
    obtain ⟨hok, hln⟩ := lineC_zero hc
    obtain ⟨q0, q1, -⟩ := okIrq_len hok
    obtain rfl : n0 = 8 := by have := H.out.1.1; omega
    obtain rfl : n1 = 8 := by have := H.out.1.2; omega
    obtain ⟨k, rfl⟩ : ∃ k : Nat, n = k := ⟨n.toNat, by have := lvB_range hln; omega⟩
    have hk : k < 8 := by have := lvB_range hln; omega
    have HO := Lib.hid (controllerOf A0 A1 c0 c1 d0 d1 w1 q0 q1 (H.out.2.1.below hb) (H.out.2.2.below hb))
    have HLn := Lib.hid (And.intro q0 q1)
    have f0 := (X0.out.step hb1).cell 0 rfl
    have f1 := (X0.out.step hb1).cell 1 rfl
    clear HC hok hln X0 Y0 H HW0 q0 q1
    have HRz : Hid (r = (d0, (d1.set k x), 0)) := Lib.hid (by rw [← HR.out]; unfold pendF; rw [if_pos hc]; rfl)
    clear HR hc
    go_wp2_with (fail)
    refine HO.out.mono ?_
    rintro e w2 ⟨rfl, hb2⟩
    have hb3 := bt hb hb2
    have Z0 : Hid (Box ((w2.alloc (.cells (ctlC zL zP).toArray 52)).setCells w2.heap.size 0 (ctlC d0 d1)) w2.heap.size 52 (ctlC d0 d1).toArray) := Lib.hid (box_put (Box.new w2 52 (ctlC zL zP).toArray) _ (by rw [ctlC_len, HLn.out.1, HLn.out.2]; rfl))
    have hct : ((w2.alloc (.cells (ctlC zL zP).toArray 52)).setCells w2.heap.size 0 (ctlC d0 d1)).cell? ⟨w2.heap.size, 8 + k, none⟩ = some (.bool (d1.getD k false)) := Z0.out.cell (8 + k) (by simpa using ctlC_pend HLn.out.1 k (show k < d1.length by rw [HLn.out.2]; exact hk))
    have hcz := Z0.out.frozen (8 + k)
    have HT : Hid ((w2.alloc (.cells (ctlC zL zP).toArray 52)).there w2.heap.size 0 (ctlC d0 d1).toArray.size) := Lib.hid (by
      have := box_there (Box.new w2 52 (ctlC zL zP).toArray)
      rwa [show (ctlC zL zP).toArray.size = (ctlC d0 d1).toArray.size from by rw [List.size_toArray, List.size_toArray, ctlC_len, ctlC_len, HLn.out.1, HLn.out.2]; rfl] at this)
    have HS : Hid ((Try.prog.info? 52).map (·.size) = some (ctlC d0 d1).toArray.size) := Lib.hid (by rw [List.size_toArray, ctlC_len, HLn.out.1, HLn.out.2]; exact sizeCtl)
    have HOn := Lib.hid (all_oneCell_toArray (ctlC_one d0 d1))
    have Z1 : Hid (Box (((w2.alloc (.cells (ctlC zL zP).toArray 52)).setCells w2.heap.size 0 (ctlC d0 d1)).setCell ⟨w2.heap.size, 8 + k, none⟩ (.bool x)) w2.heap.size 52 (ctlC d0 (d1.set k x)).toArray) := Lib.hid (by
      have := Z0.out.set (8 + k) (.bool x)
      rwa [List.setIfInBounds_toArray, ctlC_setP HLn.out.1 k x] at this)
    have HS2 : Hid ((Try.prog.info? 52).map (·.size) = some (ctlC d0 (d1.set k x)).length) := Lib.hid (by rw [ctlC_len, List.length_set, HLn.out.1, HLn.out.2]; exact sizeCtl)
    have hb4 : Below w1.heap.size w1 (((w2.alloc (.cells (ctlC zL zP).toArray 52)).setCells w2.heap.size 0 (ctlC d0 d1)).setCell ⟨w2.heap.size, 8 + k, none⟩ (.bool x)) := (below_setCellsN (by exact hb2.size) _ _ _ (bt hb2 (alloc_below _ _))).setCell (p := ⟨w2.heap.size, 8 + k, none⟩) (by exact hb2.size) _
    have HI := Lib.hid (controllerIrq d0 (d1.set k x) (((w2.alloc (.cells (ctlC zL zP).toArray 52)).setCells w2.heap.size 0 (ctlC d0 d1)).setCell ⟨w2.heap.size, 8 + k, none⟩ (.bool x)) (by exact HLn.out.1) (by rw [List.length_set]; exact HLn.out.2))
    have HN2 : Hid (d0.length = 8 ∧ (d1.set k x).length = 8) := Lib.hid ⟨by exact HLn.out.1, by rw [List.length_set]; exact HLn.out.2⟩
    generalize hcs : ctlC d0 d1 = cs at Z0 hct hcz HT HS HOn Z1 hb4 HI
    generalize hcs2 : ctlC d0 (d1.set k x) = cs2 at Z1 HS2 HI
    have HRg := Lib.hid (box_range Z1.out)
    generalize d1.getD k false = old at hct
    generalize d1.set k x = new at HRz HI HN2
    have hki : (k : Int) < 8 := by omega
    clear hcs hcs2 Z0 Z1 s0 s1 s0z s1z f0 f1 HO
    go_wp2_with (first
      | (with_reducible refine wpList_alloc_at rfl 52 rfl (ctlC zL zP).toArray infoCtx w2.heap.size rfl ?_)
      | (with_reducible refine wpList_store_mid rfl 52 (.tmp 9) (.tmp 18) rfl w2.heap.size 0 cs.toArray rfl rfl HT.out HS.out HOn.out ?_)
      | (with_reducible refine wpList_load_mid rfl 52 (.tmp 9) rfl w2.heap.size 0 rfl cs2 _ HRg.out Try.underlying52 rfl HS2.out ?_))
    refine HI.out.mono ?_
    rintro e w6 ⟨B0, B1, g0, g1, rfl, HA, hb6⟩
    have hb7 := bt hb4 hb6
    have Y6 := Y1.out.step hb7
    have y0 := Y6.cell 0 rfl
    have y1 := Y6.cell 1 rfl
    have y0z := Y6.frozen 0
    have y1z := Y6.frozen 1
    have HY6 := Lib.hid Y6
    have HQ : Hid (w.heap.size ≤ w1.heap.size ∧ w1.heap.size ≤ (((w2.alloc (.cells (ctlC zL zP).toArray 52)).setCells w2.heap.size 0 cs).setCell ⟨w2.heap.size, 8 + k, none⟩ (.bool x)).heap.size) := Lib.hid ⟨hb.size, hb4.size⟩
    clear Y6 HI hct hcz HT HS HOn HRg HS2
    go_wp2
    refine bodyPost_ret (v := .tuple #[.agg #[.slice B0 8 g0, .slice B1 8 g1], .int .i64 0]) (by simp [results, Try.results37, go_sem, y0, y1]) rfl ?_
    rw [HRz.out]
    refine ⟨B0, B1, g0, g1, ?_, Lib.hid ?_, below2 (bt hb hb7) (by omega) _ _⟩
    · show _ = Ending.returned (.tuple #[.agg #[.slice B0 d0.length g0, .slice B1 new.length g1], .int .i64 0])
      rw [HN2.out.1, HN2.out.2]
    · show OwnA _ _ _ [.slice B0 d0.length g0, .slice B1 new.length g1] [.I d0, .B new]
      rw [HN2.out.1, HN2.out.2]
      exact (HA.out.far2 HY6.out _ _).wide (Nat.le_trans HQ.out.1 HQ.out.2) (by rw [size2]; exact Nat.le_refl _)
  · have hcb : (lineC d0 d1 n != 0) = true := by simp [hc]
    have HRz : Hid (r = ([], [], lineC d0 d1 n)) := Lib.hid (by rw [← HR.out]; unfold pendF; rw [if_neg hc])
    generalize lineC d0 d1 n = cd at hcb hc HRz
    clear HR HC X0 Y0 H HW0 hc
    go_wp2
    refine bodyPost_ret (v := .tuple #[.agg #[.slice none 0 0, .slice none 0 0], .int .i64 cd]) (by simp [results, Try.results37, go_sem, s0, s1]) rfl ?_
    rw [HRz.out]
    exact gives_none cd (below2 hb (by omega) _ _)

set_option maxRecDepth 100000 in
set_option maxHeartbeats 4000000 in
theorem implSetLevel (A0 A1 : Option Addr) (n0 n1 c0 c1 : Nat) (d0 : List Int) (d1 : List Bool) (w : World) (n v : Int) (l0 : d0.length = n0) (l1 : d1.length = n1) (m0 : n0 ≤ maxLen) (m1 : n1 ≤ maxLen) (h0 : IntL w A0 d0) (h1 : BoolL w A1 d1) :
    Calls Try.prog 15 #[.agg #[.slice A0 n0 c0, .slice A1 n1 c1], .int .i64 n, .int .i64 v] w (GivesIrqCode (levF d0 d1 n v) w) := by
  obtain ⟨W0, hW0⟩ : ∃ W0, W0 = ((w.alloc (.cells #[.slice A0 n0 c0, .slice A1 n1 c1] 26)).alloc (.cells #[.slice none 0 0, .slice none 0 0] 26)) := ⟨_, rfl⟩
  have hb0 : Below w.heap.size w W0 := by rw [hW0]; exact bt (alloc_below _ _) (alloc_below _ _)
  have X0 : Hid (Box W0 w.heap.size 26 #[.slice A0 n0 c0, .slice A1 n1 c1]) := Lib.hid (by rw [hW0]; exact (Box.new _ _ _).alloc _)
  have Y0 : Hid (Box W0 (w.heap.size + 1) 26 #[.slice none 0 0, .slice none 0 0]) := Lib.hid (by rw [hW0]; simpa using Box.new (w.alloc (.cells #[.slice A0 n0 c0, .slice A1 n1 c1] 26)) 26 #[.slice none 0 0, .slice none 0 0])
  have HC := Lib.hid (checkLine A0 A1 n0 n1 c0 c1 d0 d1 W0 n l0 l1 m0 m1 (h0.below hb0))
  have H := Lib.hid (And.intro (And.intro l0 l1) (And.intro h0 h1))
  obtain ⟨r, hr⟩ : ∃ r, levF d0 d1 n v = r := ⟨_, rfl⟩
  rw [hr]
  have HR := Lib.hid hr
  have HW0 := Lib.hid hW0
  clear l0 l1 m0 m1 h0 h1 hW0 hr
  go_enter Try.func15, Try.ntmps15
  go_wp2_with fail
  rw [← HW0.out]
  refine HC.out.mono ?_
  rintro e w1 ⟨rfl, hb1⟩
  have hb := bt hb0 hb1
  have Y1 := Lib.hid (Y0.out.step hb1)
  have s0 := Y1.out.cell 0 rfl
  have s1 := Y1.out.cell 1 rfl
  have s0z := Y1.out.frozen 0
  have s1z := Y1.out.frozen 1
  by_cases hc : lineC d0 d1 n = 0
  · have hcb : (lineC d0 d1 n != 0) = false := by simp [hc]
    obtain ⟨hok, hln⟩ := lineC_zero hc
    obtain ⟨q0, q1, -⟩ := okIrq_len hok
    obtain rfl : n0 = 8 := by have := H.out.1.1; omega
    obtain rfl : n1 = 8 := by have := H.out.1.2; omega
    obtain ⟨k, rfl⟩ : ∃ k : Nat, n = k := ⟨n.toNat, by have := lvB_range hln; omega⟩
    have hk : k < 8 := by have := lvB_range hln; omega
    have HO := Lib.hid (controllerOf A0 A1 c0 c1 d0 d1 w1 q0 q1 (H.out.2.1.below hb) (H.out.2.2.below hb))
    have HLn := Lib.hid (And.intro q0 q1)
    have f0 := (X0.out.step hb1).cell 0 rfl
    have f1 := (X0.out.step hb1).cell 1 rfl
    clear HC hok hln X0 Y0 H HW0 q0 q1
    by_cases hv : lvB v = true
    · skip
      have HRz : Hid (r = ((d0.set k v), d1, 0)) := Lib.hid (by rw [← HR.out]; unfold levF; rw [if_pos hc, if_pos hv]; rfl)
      clear HR hc
      go_wp2_with (first | (go_at_call 32; refine (isLevel _ _).mono ?_; rintro e w' ⟨rfl, rfl⟩; rw [hv]))
      refine HO.out.mono ?_
      rintro e w2 ⟨rfl, hb2⟩
      have hb3 := bt hb hb2
      have Z0 : Hid (Box ((w2.alloc (.cells (ctlC zL zP).toArray 52)).setCells w2.heap.size 0 (ctlC d0 d1)) w2.heap.size 52 (ctlC d0 d1).toArray) := Lib.hid (box_put (Box.new w2 52 (ctlC zL zP).toArray) _ (by rw [ctlC_len, HLn.out.1, HLn.out.2]; rfl))
      have hct : ((w2.alloc (.cells (ctlC zL zP).toArray 52)).setCells w2.heap.size 0 (ctlC d0 d1)).cell? ⟨w2.heap.size, k, none⟩ = some (.int .i64 (d0.getD k 0)) := Z0.out.cell (k) (by simpa using ctlC_level k (show k < d0.length by rw [HLn.out.1]; exact hk))
      have hcz := Z0.out.frozen (k)
      have HT : Hid ((w2.alloc (.cells (ctlC zL zP).toArray 52)).there w2.heap.size 0 (ctlC d0 d1).toArray.size) := Lib.hid (by
        have := box_there (Box.new w2 52 (ctlC zL zP).toArray)
        rwa [show (ctlC zL zP).toArray.size = (ctlC d0 d1).toArray.size from by rw [List.size_toArray, List.size_toArray, ctlC_len, ctlC_len, HLn.out.1, HLn.out.2]; rfl] at this)
      have HS : Hid ((Try.prog.info? 52).map (·.size) = some (ctlC d0 d1).toArray.size) := Lib.hid (by rw [List.size_toArray, ctlC_len, HLn.out.1, HLn.out.2]; exact sizeCtl)
      have HOn := Lib.hid (all_oneCell_toArray (ctlC_one d0 d1))
      have Z1 : Hid (Box (((w2.alloc (.cells (ctlC zL zP).toArray 52)).setCells w2.heap.size 0 (ctlC d0 d1)).setCell ⟨w2.heap.size, k, none⟩ (.int .i64 v)) w2.heap.size 52 (ctlC (d0.set k v) d1).toArray) := Lib.hid (by
        have := Z0.out.set (k) (.int .i64 v)
        rwa [List.setIfInBounds_toArray, ctlC_setL k v (by rw [HLn.out.1]; exact hk)] at this)
      have HS2 : Hid ((Try.prog.info? 52).map (·.size) = some (ctlC (d0.set k v) d1).length) := Lib.hid (by rw [ctlC_len, List.length_set, HLn.out.1, HLn.out.2]; exact sizeCtl)
      have hb4 : Below w1.heap.size w1 (((w2.alloc (.cells (ctlC zL zP).toArray 52)).setCells w2.heap.size 0 (ctlC d0 d1)).setCell ⟨w2.heap.size, k, none⟩ (.int .i64 v)) := (below_setCellsN (by exact hb2.size) _ _ _ (bt hb2 (alloc_below _ _))).setCell (p := ⟨w2.heap.size, k, none⟩) (by exact hb2.size) _
      have HI := Lib.hid (controllerIrq (d0.set k v) d1 (((w2.alloc (.cells (ctlC zL zP).toArray 52)).setCells w2.heap.size 0 (ctlC d0 d1)).setCell ⟨w2.heap.size, k, none⟩ (.int .i64 v)) (by rw [List.length_set]; exact HLn.out.1) (by exact HLn.out.2))
      have HN2 : Hid ((d0.set k v).length = 8 ∧ d1.length = 8) := Lib.hid ⟨by rw [List.length_set]; exact HLn.out.1, by exact HLn.out.2⟩
      generalize hcs : ctlC d0 d1 = cs at Z0 hct hcz HT HS HOn Z1 hb4 HI
      generalize hcs2 : ctlC (d0.set k v) d1 = cs2 at Z1 HS2 HI
      have HRg := Lib.hid (box_range Z1.out)
      generalize d0.getD k 0 = old at hct
      generalize d0.set k v = new at HRz HI HN2
      have hki : (k : Int) < 8 := by omega
      clear hcs hcs2 Z0 Z1 s0 s1 s0z s1z f0 f1 HO
      go_wp2_with (first
        | (with_reducible refine wpList_alloc_at rfl 52 rfl (ctlC zL zP).toArray infoCtx w2.heap.size rfl ?_)
        | (with_reducible refine wpList_store_mid rfl 52 (.tmp 9) (.tmp 22) rfl w2.heap.size 0 cs.toArray rfl rfl HT.out HS.out HOn.out ?_)
        | (with_reducible refine wpList_load_mid rfl 52 (.tmp 9) rfl w2.heap.size 0 rfl cs2 _ HRg.out Try.underlying52 rfl HS2.out ?_))
      refine HI.out.mono ?_
      rintro e w6 ⟨B0, B1, g0, g1, rfl, HA, hb6⟩
      have hb7 := bt hb4 hb6
      have Y6 := Y1.out.step hb7
      have y0 := Y6.cell 0 rfl
      have y1 := Y6.cell 1 rfl
      have y0z := Y6.frozen 0
      have y1z := Y6.frozen 1
      have HY6 := Lib.hid Y6
      have HQ : Hid (w.heap.size ≤ w1.heap.size ∧ w1.heap.size ≤ (((w2.alloc (.cells (ctlC zL zP).toArray 52)).setCells w2.heap.size 0 cs).setCell ⟨w2.heap.size, k, none⟩ (.int .i64 v)).heap.size) := Lib.hid ⟨hb.size, hb4.size⟩
      clear Y6 HI hct hcz HT HS HOn HRg HS2
      go_wp2
      refine bodyPost_ret (v := .tuple #[.agg #[.slice B0 8 g0, .slice B1 8 g1], .int .i64 0]) (by simp [results, Try.results15, go_sem, y0, y1]) rfl ?_
      rw [HRz.out]
      refine ⟨B0, B1, g0, g1, ?_, Lib.hid ?_, below2 (bt hb hb7) (by omega) _ _⟩
      · show _ = Ending.returned (.tuple #[.agg #[.slice B0 new.length g0, .slice B1 d1.length g1], .int .i64 0])
        rw [HN2.out.1, HN2.out.2]
      · show OwnA _ _ _ [.slice B0 new.length g0, .slice B1 d1.length g1] [.I new, .B d1]
        rw [HN2.out.1, HN2.out.2]
        exact (HA.out.far2 HY6.out _ _).wide (Nat.le_trans HQ.out.1 HQ.out.2) (by rw [size2]; exact Nat.le_refl _)
    · have hv' : lvB v = false := by simpa using hv
      have HRz : Hid (r = ([], [], 19)) := Lib.hid (by rw [← HR.out]; unfold levF; rw [if_pos hc, if_neg hv])
      clear HR hv hc HO f0 f1
      go_wp2_with (first | (go_at_call 32; refine (isLevel _ _).mono ?_; rintro e w' ⟨rfl, rfl⟩; rw [hv']))
      refine bodyPost_ret (v := .tuple #[.agg #[.slice none 0 0, .slice none 0 0], .int .i64 19]) (by simp [results, Try.results15, go_sem, s0, s1]) rfl ?_
      rw [HRz.out]
      exact gives_none 19 (below2 hb (by omega) _ _)
  · have hcb : (lineC d0 d1 n != 0) = true := by simp [hc]
    have HRz : Hid (r = ([], [], lineC d0 d1 n)) := Lib.hid (by rw [← HR.out]; unfold levF; rw [if_neg hc])
    generalize lineC d0 d1 n = cd at hcb hc HRz
    clear HR HC X0 Y0 H HW0 hc
    go_wp2
    refine bodyPost_ret (v := .tuple #[.agg #[.slice none 0 0, .slice none 0 0], .int .i64 cd]) (by simp [results, Try.results15, go_sem, s0, s1]) rfl ?_
    rw [HRz.out]
    exact gives_none cd (below2 hb (by omega) _ _)

set_option maxRecDepth 100000 in
set_option maxHeartbeats 1000000 in
theorem implRaise (A0 A1 : Option Addr) (n0 n1 c0 c1 : Nat) (d0 : List Int) (d1 : List Bool) (w : World) (n : Int) (l0 : d0.length = n0) (l1 : d1.length = n1) (m0 : n0 ≤ maxLen) (m1 : n1 ≤ maxLen) (h0 : IntL w A0 d0) (h1 : BoolL w A1 d1) :
    Calls Try.prog 14 #[.agg #[.slice A0 n0 c0, .slice A1 n1 c1], .int .i64 n] w (GivesIrqCode (pendF d0 d1 n true) w) := by
  obtain ⟨W0, hW0⟩ : ∃ W0, W0 = ((w.alloc (.cells #[.slice A0 n0 c0, .slice A1 n1 c1] 26)).alloc (.cells #[.slice none 0 0, .slice none 0 0] 26)) := ⟨_, rfl⟩
  have hb0 : Below w.heap.size w W0 := by rw [hW0]; exact bt (alloc_below _ _) (alloc_below _ _)
  have Y0 : Hid (Box W0 (w.heap.size + 1) 26 #[.slice none 0 0, .slice none 0 0]) := Lib.hid (by rw [hW0]; simpa using Box.new (w.alloc (.cells #[.slice A0 n0 c0, .slice A1 n1 c1] 26)) 26 #[.slice none 0 0, .slice none 0 0])
  have HC := Lib.hid (withPending A0 A1 n0 n1 c0 c1 d0 d1 W0 n true l0 l1 m0 m1 (h0.below hb0) (h1.below hb0))
  have HW0 := Lib.hid hW0
  generalize pendF d0 d1 n true = r at HC
  clear l0 l1 m0 m1 h0 h1 hW0
  go_enter Try.func14, Try.ntmps14
  go_wp2_with fail
  rw [← HW0.out]
  refine HC.out.mono ?_
  rintro e w1 ⟨B0, B1, g0, g1, rfl, HA, hb1⟩
  have hb := bt hb0 hb1
  have Y1 := Y0.out.step hb1
  have s0 := Y1.cell 0 rfl
  have s1 := Y1.cell 1 rfl
  have s0z := Y1.frozen 0
  have s1z := Y1.frozen 1
  have HY1 := Lib.hid Y1
  clear Y1 HC
  go_wp2
  refine bodyPost_ret (v := .tuple #[.agg #[.slice B0 r.1.length g0, .slice B1 r.2.1.length g1], .int .i64 r.2.2]) (by simp [results, Try.results14, go_sem, s0, s1]) rfl ?_
  exact ⟨B0, B1, g0, g1, rfl, Lib.hid ((HA.out.far2 HY1.out _ _).wide hb0.size (by rw [size2]; exact Nat.le_refl _)), below2 hb (by omega) _ _⟩

set_option maxRecDepth 100000 in
set_option maxHeartbeats 1000000 in
theorem implAck (A0 A1 : Option Addr) (n0 n1 c0 c1 : Nat) (d0 : List Int) (d1 : List Bool) (w : World) (n : Int) (l0 : d0.length = n0) (l1 : d1.length = n1) (m0 : n0 ≤ maxLen) (m1 : n1 ≤ maxLen) (h0 : IntL w A0 d0) (h1 : BoolL w A1 d1) :
    Calls Try.prog 16 #[.agg #[.slice A0 n0 c0, .slice A1 n1 c1], .int .i64 n] w (GivesIrqCode (pendF d0 d1 n false) w) := by
  obtain ⟨W0, hW0⟩ : ∃ W0, W0 = ((w.alloc (.cells #[.slice A0 n0 c0, .slice A1 n1 c1] 26)).alloc (.cells #[.slice none 0 0, .slice none 0 0] 26)) := ⟨_, rfl⟩
  have hb0 : Below w.heap.size w W0 := by rw [hW0]; exact bt (alloc_below _ _) (alloc_below _ _)
  have Y0 : Hid (Box W0 (w.heap.size + 1) 26 #[.slice none 0 0, .slice none 0 0]) := Lib.hid (by rw [hW0]; simpa using Box.new (w.alloc (.cells #[.slice A0 n0 c0, .slice A1 n1 c1] 26)) 26 #[.slice none 0 0, .slice none 0 0])
  have HC := Lib.hid (withPending A0 A1 n0 n1 c0 c1 d0 d1 W0 n false l0 l1 m0 m1 (h0.below hb0) (h1.below hb0))
  have HW0 := Lib.hid hW0
  generalize pendF d0 d1 n false = r at HC
  clear l0 l1 m0 m1 h0 h1 hW0
  go_enter Try.func16, Try.ntmps16
  go_wp2_with fail
  rw [← HW0.out]
  refine HC.out.mono ?_
  rintro e w1 ⟨B0, B1, g0, g1, rfl, HA, hb1⟩
  have hb := bt hb0 hb1
  have Y1 := Y0.out.step hb1
  have s0 := Y1.cell 0 rfl
  have s1 := Y1.cell 1 rfl
  have s0z := Y1.frozen 0
  have s1z := Y1.frozen 1
  have HY1 := Lib.hid Y1
  clear Y1 HC
  go_wp2
  refine bodyPost_ret (v := .tuple #[.agg #[.slice B0 r.1.length g0, .slice B1 r.2.1.length g1], .int .i64 r.2.2]) (by simp [results, Try.results16, go_sem, s0, s1]) rfl ?_
  exact ⟨B0, B1, g0, g1, rfl, Lib.hid ((HA.out.far2 HY1.out _ _).wide hb0.size (by rw [size2]; exact Nat.le_refl _)), below2 hb (by omega) _ _⟩

set_option maxRecDepth 100000 in
set_option maxHeartbeats 1000000 in
theorem implNewIrq (w : World) : Calls Try.prog 18 #[] w (GivesIrq zL zP w) := by
  obtain ⟨W0, hW0⟩ : ∃ W0, W0 = (w.alloc (.cells #[.slice none 0 0, .slice none 0 0] 26)) := ⟨_, rfl⟩
  have hb0 : Below w.heap.size w W0 := by rw [hW0]; exact alloc_below _ _
  have Y0 : Hid (Box W0 w.heap.size 26 #[.slice none 0 0, .slice none 0 0]) := Lib.hid (by rw [hW0]; exact Box.new _ _ _)
  have HC := Lib.hid (show Calls Try.prog 39 #[.agg #[.int .i64 0, .int .i64 0, .int .i64 0, .int .i64 0, .int .i64 0, .int .i64 0, .int .i64 0, .int .i64 0, .bool false, .bool false, .bool false, .bool false, .bool false, .bool false, .bool false, .bool false]] W0 (GivesIrq zL zP W0) from controllerIrq zL zP W0 rfl rfl)
  have HW0 := Lib.hid hW0
  clear hW0
  go_enter Try.func18, Try.ntmps18
  go_wp2_with fail
  rw [← HW0.out]
  refine HC.out.mono ?_
  rintro e w1 ⟨B0, B1, g0, g1, rfl, HA, hb1⟩
  have hb := bt hb0 hb1
  have Y1 := Y0.out.step hb1
  have s0 := Y1.cell 0 rfl
  have s1 := Y1.cell 1 rfl
  have s0z := Y1.frozen 0
  have s1z := Y1.frozen 1
  have HY1 := Lib.hid Y1
  clear Y1 HC
  go_wp2
  refine bodyPost_ret (v := .agg #[.slice B0 8 g0, .slice B1 8 g1]) (by simp [results, Try.results18, go_sem, s0, s1]) rfl ?_
  exact ⟨B0, B1, g0, g1, rfl, Lib.hid ((HA.out.far2 HY1.out _ _).wide hb0.size (by rw [size2]; exact Nat.le_refl _)), below2 hb (by omega) _ _⟩
end Go.Proofs.Ytamfapmkdojhcaa
