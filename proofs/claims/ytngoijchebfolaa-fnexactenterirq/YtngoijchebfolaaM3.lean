/- Texts of this claim, one behind the other: CycleOf, MemMath, BusRead, GenA, GenB, GenC, GenInstr, OpTab, Quiet, OpOk, OpLen, OpDec, CpuMath, GenFlash. -/
import Derived.StillTailTactics
import Derived.Deep.RegionHeld3
import Derived.BigQuiet
import Derived.Deep.QuietTactic
import Derived.WalkKit
import Derived.Test.YtngoijchebfolaaM2
/- The contract of chip.cycle. -/
namespace Go.Proofs.Ytngoijchebfolaa
open Go.RowKit

def cycZ (zs : List Int) (gs : List Bool) (st : Int) (k v : Nat) : List Int := if st = 3 then progL zs gs k v else if st = 6 then wipeZ zs gs k v else zs
def cycG (gs : List Bool) (st : Int) (k : Nat) : List Bool := if st = 8 then gs.set (k / 16) true else gs
theorem cycZ_len (zs : List Int) (gs : List Bool) (st : Int) (k v : Nat) : (cycZ zs gs st k v).length = zs.length := by
  unfold cycZ
  split
  · exact progL_len _ _ _ _
  · split
    · exact wipeZ_len _ _ _ _
    · rfl
theorem cycG_len (gs : List Bool) (st : Int) (k : Nat) : (cycG gs st k).length = gs.length := by
  unfold cycG
  split
  · exact List.length_set
  · rfl
theorem eraseN_range {zs : List Int} {gs : List Bool} (h : ∀ z ∈ zs, 0 ≤ z ∧ z ≤ 255) : ∀ n, ∀ z ∈ eraseN zs gs n, 0 ≤ z ∧ z ≤ 255
  | 0 => h
  | n + 1 => eraseL_range (eraseN_range h n)
theorem wipeZ_range {zs : List Int} {gs : List Bool} {k v : Nat} (h : ∀ z ∈ zs, 0 ≤ z ∧ z ≤ 255) : ∀ z ∈ wipeZ zs gs k v, 0 ≤ z ∧ z ≤ 255 := by
  unfold wipeZ
  split
  · split
    · exact eraseN_range h 16
    · exact h
  · split
    · exact eraseL_range h
    · exact h
theorem cycZ_range {zs : List Int} {gs : List Bool} {st : Int} {k v : Nat} (h : ∀ z ∈ zs, 0 ≤ z ∧ z ≤ 255) (hv : v < 256) : ∀ z ∈ cycZ zs gs st k v, 0 ≤ z ∧ z ≤ 255 := by
  unfold cycZ
  split
  · exact progL_range h hv
  · split
    · exact wipeZ_range h
    · exact h
theorem nextS_in (st k v : Int) : 0 ≤ nextS st k v ∧ nextS st k v ≤ 8 := by
  unfold nextS cmdS
  split
  · split <;> omega
  · split
    · split <;> omega
    · split
      · split
        · split
          · omega
          · split
            · omega
            · split
              · omega
              · split <;> omega
        · omega
      · split
        · split <;> omega
        · omega

theorem wpStill_load_mid {P : Program} {ops : Array Oper} {w : World} {Q : Act → Prop} {a : Act} {o : Oper} {rest : List Oper} (hgd : o.guard = none) (ty : TypeId) (x : Operand) (ho : o.op = .load ty x)
    (b off : Nat) (hx : a.eval x = .pointer (some ⟨b, off, none⟩)) (cs : List Value) (d : TypeDesc) (hc : w.rangeAt b off cs) (hu : P.underlying ty = some d) (hd : d.isRow = true) (hi : (P.info? ty).map (·.size) = some cs.length)
    (h : wpStill P ops w Q rest (a.put o.dst (.agg cs.toArray))) : wpStill P ops w Q (o :: rest) a :=
  wpStill_step (fun K hK => by
    rw [if_pos (by simp [Region.wanted, hgd])]
    unfold Oper.still execOp
    simp only [ho, hx, Instr.loadAt, Instr.sureAddr, Sem.run_bind, Sem.run_pure, Result.andThen_ok, run_loadVar_mid w b off ty cs d hc hu hd hi]
    rw [Oper.stillUpon_value]
    exact hK _ h)

set_option maxRecDepth 100000 in
set_option maxHeartbeats 8000000 in
theorem chipCycle (k v : Nat) (zs : List Int) (gs : List Bool) (st : Int) (w : World) (hz : zs.length = 256) (hg : gs.length = 16) (hs : 0 ≤ st ∧ st ≤ 8) (hk : k < 256) (hv : v < 256) (hzs : ∀ z ∈ zs, 0 ≤ z ∧ z ≤ 255) :
    Calls Try.prog 149 #[.agg (chipC zs gs st).toArray, .int .i64 k, .int .u8 v] w (GivesChip (cycZ zs gs st k v) (cycG gs st k) (nextS st k v) w) := by
  obtain ⟨X0, Y0, hb0⟩ := two_chips w zs gs st
  have HL := Lib.hid (And.intro hz hg)
  have HIn := Lib.hid infoCx
  obtain ⟨zc, hzc⟩ : ∃ zc, zc = zC.toArray := ⟨_, rfl⟩
  rw [← hzc] at HIn X0 Y0 hb0
  obtain ⟨W1, hW1⟩ : ∃ W1, W1 = (w.alloc (.cells (chipC zs gs st).toArray 119)).alloc (.cells zc 119) := ⟨_, rfl⟩
  have hs1 : W1.heap.size = w.heap.size + 1 + 1 := by rw [hW1]; simp
  rw [← hW1] at X0 Y0 hb0
  have Z0 : BC (W1.alloc (.cells zc 119)) (w.heap.size + 1 + 1) zZ zG 0 := by have := BC.newZ W1; rw [hs1, ← hzc] at this; exact this
  have HLd := Lib.hid (X0.loads hz hg)
  have HSt := Lib.hid (Z0.stores (zs' := zs) (gs' := gs) (st' := st) zZ_len zG_len hz hg)
  obtain ⟨W3, hW3⟩ : ∃ W3, W3 = (W1.alloc (.cells zc 119)).setCells (w.heap.size + 1 + 1) 0 (chipC zs gs st) := ⟨_, rfl⟩
  have X3 : BC W3 w.heap.size zs gs st := by rw [hW3]; exact (X0.alloc _).far' (by omega) _ _
  have Y3 : BC W3 (w.heap.size + 1) zZ zG 0 := by rw [hW3]; exact (Y0.alloc _).far' (by omega) _ _
  have Z3 : BC W3 (w.heap.size + 1 + 1) zs gs st := by rw [hW3]; exact Z0.put (hz.trans zZ_len.symm) (hg.trans zG_len.symm)
  have hb3 : Below w.heap.size w W3 := by rw [hW3]; exact below_setCellsC (bt hb0 (alloc_below _ _)) (by omega) 0 _
  have x2 := X3.state hz hg
  have HLd3 := Lib.hid (X3.loads hz hg)
  have HN := Lib.hid (fun W => chipNext k v zs gs st W hz hg hs)
  have HPr := Lib.hid (fun W => chipProgram k v zs gs st W hz hg hk hv hzs)
  have HWi := Lib.hid (fun W => chipWipe k v zs gs st W hz hg hk hv)
  have HGu := Lib.hid (fun W => chipProtect (k / 16) zs gs st W hz hg (by omega))
  have HPr : Hid (∀ W, Calls Try.prog 151 #[.agg (chipC zs gs st).toArray, .int .i64 k, .int .u8 v] W fun e w' => e = .returned (.agg (chipC (progL zs gs k v) gs st).toArray) ∧ Below W.heap.size W w') := HPr
  have HWi : Hid (∀ W, Calls Try.prog 152 #[.agg (chipC zs gs st).toArray, .int .i64 k, .int .u8 v] W fun e w' => e = .returned (.agg (chipC (wipeZ zs gs k v) gs st).toArray) ∧ Below W.heap.size W w') := HWi
  have HGu : Hid (∀ W, Calls Try.prog 153 #[.agg (chipC zs gs st).toArray, .int .i64 ((k / 16 : Nat) : Int)] W fun e w' => e = .returned (.agg (chipC zs (gs.set (k / 16) true) st).toArray) ∧ Below W.heap.size W w') := HGu
  have HBo := Lib.hid (fun W => blockOf k (by omega) W)
  have HX3 := Lib.hid (And.intro X3 (And.intro Y3 Z3))
  have HB3 := Lib.hid hb3
  generalize hns : nextS st k v = sn at HN
  have HNs := Lib.hid hns
  generalize hc0 : chipC zs gs st = c0 at HLd HSt HLd3 HN HPr HWi HGu hW1 hW3
  have HC0 := Lib.hid hc0
  have HW1 := Lib.hid hW1
  have HW3 := Lib.hid hW3
  have HS1 := Lib.hid hs1
  rw [hW3] at x2
  clear hz hg hs X0 Y0 Z0 hb0 hzc hW1 hs1 hW3 X3 Y3 Z3 hb3 hzs hns hc0
  by_cases h3 : st = 3
  · subst h3
    have HE : Hid (cycZ zs gs 3 k v = progL zs gs k v ∧ cycG gs 3 k = gs) := Lib.hid ⟨by unfold cycZ; rw [if_pos rfl], by unfold cycG; rw [if_neg (by omega)]⟩
    go_enter Try.func149, Try.ntmps149
    obtain ⟨c4, hc4⟩ : ∃ c4, c4 = chipC (progL zs gs k v) (gs) 3 := ⟨_, rfl⟩
    rw [← hc4] at HPr
    have HC4 := Lib.hid hc4
    clear hc4
    go_wp2_with (first
      | (with_reducible refine wpList_alloc_at rfl 119 rfl zc HIn.out (w.heap.size + 1 + 1) HS1.out ?_)
      | (with_reducible refine wpList_alloc_big rfl 119 rfl zc HIn.out ?_)
      | (rw [← HW3.out]; with_reducible refine wpList_load_mid rfl 119 (.tmp 3) rfl w.heap.size 0 rfl c0 _ HLd3.out.range Try.underlying119 rfl HLd3.out.size ?_)
      | (rw [← HW1.out]; with_reducible refine wpList_load_mid rfl 119 (.tmp 3) rfl w.heap.size 0 rfl c0 _ HLd.out.range Try.underlying119 rfl HLd.out.size ?_)
      | (with_reducible refine wpList_store_mid rfl 119 (.tmp 7) (.tmp 8) rfl (w.heap.size + 1 + 1) 0 c0.toArray rfl rfl HSt.out.room HSt.out.size HSt.out.one ?_))
    refine (HPr.out W3).mono ?_
    rintro e w4 ⟨rfl, hb4⟩
    have HS4 := Lib.hid ((HX3.out.2.2.step hb4).stores (zs' := progL zs gs k v) (gs' := gs) (st' := 3) HL.out.1 HL.out.2 (by rw [progL_len]; exact HL.out.1) (HL.out.2))
    rw [← HC4.out] at HS4
    obtain ⟨W5, hW5⟩ : ∃ W5, W5 = w4.setCells (w.heap.size + 1 + 1) 0 c4 := ⟨_, rfl⟩
    have X5 : BC W5 w.heap.size zs gs 3 := by rw [hW5]; exact (HX3.out.1.step hb4).far' (by omega) _ _
    have Y5 : BC W5 (w.heap.size + 1) zZ zG 0 := by rw [hW5]; exact (HX3.out.2.1.step hb4).far' (by omega) _ _
    have Z5 : BC W5 (w.heap.size + 1 + 1) (progL zs gs k v) (gs) 3 := by rw [hW5, HC4.out]; exact (HX3.out.2.2.step hb4).put ((by rw [progL_len]; exact HL.out.1 : _ = 256).trans HL.out.1.symm) ((HL.out.2 : _ = 16).trans HL.out.2.symm)
    have hb5 : Below w.heap.size w W5 := by rw [hW5]; exact below_setCellsC (bt HB3.out hb4) (by omega) 0 _
    have HLd5 := Lib.hid (X5.loads HL.out.1 HL.out.2)
    rw [HC0.out] at HLd5
    have HX5 := Lib.hid (And.intro Y5 Z5)
    have HB5 := Lib.hid hb5
    have HW5 := Lib.hid hW5
    clear x2 hb4 X5 Y5 Z5 hb5 hW5 HX3 HB3 HLd HSt HLd3
    go_wp2_with (first
      | (with_reducible refine wpList_store_mid rfl 119 (.tmp 7) (.tmp 16) rfl (w.heap.size + 1 + 1) 0 c4.toArray rfl rfl HS4.out.room HS4.out.size HS4.out.one ?_)
      | (rw [← HW5.out]; with_reducible refine wpList_load_mid rfl 119 (.tmp 3) rfl w.heap.size 0 rfl c0 _ HLd5.out.range Try.underlying119 rfl HLd5.out.size ?_))
    refine (HN.out W5).mono ?_
    rintro e w6 ⟨rfl, hb6⟩
    have HZ6 := Lib.hid (HX5.out.2.step hb6)
    have HY6 := Lib.hid (HX5.out.1.step hb6)
    have hbz := bt HB5.out hb6
    clear hb6 HX5 HB5 HW5 HLd5
    have c6 := HZ6.out.state (by rw [progL_len]; exact HL.out.1) (HL.out.2)
    have c6z := HZ6.out.frozen 272
    have hZ7 := HZ6.out.setS (by rw [progL_len]; exact HL.out.1) (HL.out.2) sn
    have hY7 := HY6.out.far (p := ⟨w.heap.size + 1 + 1, 272, none⟩) (by show w.heap.size + 1 ≠ w.heap.size + 1 + 1; omega) (.int .i64 sn)
    have HH := Lib.hid (hZ7.hands hY7 (by rw [progL_len]; exact HL.out.1) (HL.out.2) zZ_len zG_len)
    generalize hc7 : chipC (progL zs gs k v) (gs) sn = c7 at HH
    have HC7 := Lib.hid hc7
    clear hZ7 hY7 hc7
    go_wp2_with (first
      | (with_reducible refine wpList_load_mid rfl 119 (.tmp 7) rfl (w.heap.size + 1 + 1) 0 rfl c7 _ HH.out.range Try.underlying119 rfl HH.out.size ?_)
      | (with_reducible refine wpList_store_mid rfl 119 (.tmp 6) (.tmp 34) rfl (w.heap.size + 1) 0 c7.toArray rfl rfl HH.out.room HH.out.size' HH.out.one ?_))
    refine bodyPost_ret (v := .agg c7.toArray) (results_cellC Try.results149 (by rfl) HH.out.back) rfl ?_
    exact ⟨by rw [HE.out.1, HE.out.2, HC7.out], below_setCellsC (hbz.setCell (p := ⟨w.heap.size + 1 + 1, 272, none⟩) (by show w.heap.size ≤ w.heap.size + 1 + 1; omega) _) (by omega) 0 c7⟩
  by_cases h6 : st = 6
  · subst h6
    clear h3
    have HE : Hid (cycZ zs gs 6 k v = wipeZ zs gs k v ∧ cycG gs 6 k = gs) := Lib.hid ⟨by unfold cycZ; rw [if_neg (by omega), if_pos rfl], by unfold cycG; rw [if_neg (by omega)]⟩
    go_enter Try.func149, Try.ntmps149
    obtain ⟨c4, hc4⟩ : ∃ c4, c4 = chipC (wipeZ zs gs k v) (gs) 6 := ⟨_, rfl⟩
    rw [← hc4] at HWi
    have HC4 := Lib.hid hc4
    clear hc4
    go_wp2_with (first
      | (with_reducible refine wpList_alloc_at rfl 119 rfl zc HIn.out (w.heap.size + 1 + 1) HS1.out ?_)
      | (with_reducible refine wpList_alloc_big rfl 119 rfl zc HIn.out ?_)
      | (rw [← HW3.out]; with_reducible refine wpList_load_mid rfl 119 (.tmp 3) rfl w.heap.size 0 rfl c0 _ HLd3.out.range Try.underlying119 rfl HLd3.out.size ?_)
      | (rw [← HW1.out]; with_reducible refine wpList_load_mid rfl 119 (.tmp 3) rfl w.heap.size 0 rfl c0 _ HLd.out.range Try.underlying119 rfl HLd.out.size ?_)
      | (with_reducible refine wpList_store_mid rfl 119 (.tmp 7) (.tmp 8) rfl (w.heap.size + 1 + 1) 0 c0.toArray rfl rfl HSt.out.room HSt.out.size HSt.out.one ?_))
    refine (HWi.out W3).mono ?_
    rintro e w4 ⟨rfl, hb4⟩
    have HS4 := Lib.hid ((HX3.out.2.2.step hb4).stores (zs' := wipeZ zs gs k v) (gs' := gs) (st' := 6) HL.out.1 HL.out.2 (by rw [wipeZ_len]; exact HL.out.1) (HL.out.2))
    rw [← HC4.out] at HS4
    obtain ⟨W5, hW5⟩ : ∃ W5, W5 = w4.setCells (w.heap.size + 1 + 1) 0 c4 := ⟨_, rfl⟩
    have X5 : BC W5 w.heap.size zs gs 6 := by rw [hW5]; exact (HX3.out.1.step hb4).far' (by omega) _ _
    have Y5 : BC W5 (w.heap.size + 1) zZ zG 0 := by rw [hW5]; exact (HX3.out.2.1.step hb4).far' (by omega) _ _
    have Z5 : BC W5 (w.heap.size + 1 + 1) (wipeZ zs gs k v) (gs) 6 := by rw [hW5, HC4.out]; exact (HX3.out.2.2.step hb4).put ((by rw [wipeZ_len]; exact HL.out.1 : _ = 256).trans HL.out.1.symm) ((HL.out.2 : _ = 16).trans HL.out.2.symm)
    have hb5 : Below w.heap.size w W5 := by rw [hW5]; exact below_setCellsC (bt HB3.out hb4) (by omega) 0 _
    have HLd5 := Lib.hid (X5.loads HL.out.1 HL.out.2)
    rw [HC0.out] at HLd5
    have HX5 := Lib.hid (And.intro Y5 Z5)
    have HB5 := Lib.hid hb5
    have HW5 := Lib.hid hW5
    clear x2 hb4 X5 Y5 Z5 hb5 hW5 HX3 HB3 HLd HSt HLd3
    go_wp2_with (first
      | (with_reducible refine wpList_store_mid rfl 119 (.tmp 7) (.tmp 22) rfl (w.heap.size + 1 + 1) 0 c4.toArray rfl rfl HS4.out.room HS4.out.size HS4.out.one ?_)
      | (rw [← HW5.out]; with_reducible refine wpList_load_mid rfl 119 (.tmp 3) rfl w.heap.size 0 rfl c0 _ HLd5.out.range Try.underlying119 rfl HLd5.out.size ?_))
    refine (HN.out W5).mono ?_
    rintro e w6 ⟨rfl, hb6⟩
    have HZ6 := Lib.hid (HX5.out.2.step hb6)
    have HY6 := Lib.hid (HX5.out.1.step hb6)
    have hbz := bt HB5.out hb6
    clear hb6 HX5 HB5 HW5 HLd5
    have c6 := HZ6.out.state (by rw [wipeZ_len]; exact HL.out.1) (HL.out.2)
    have c6z := HZ6.out.frozen 272
    have hZ7 := HZ6.out.setS (by rw [wipeZ_len]; exact HL.out.1) (HL.out.2) sn
    have hY7 := HY6.out.far (p := ⟨w.heap.size + 1 + 1, 272, none⟩) (by show w.heap.size + 1 ≠ w.heap.size + 1 + 1; omega) (.int .i64 sn)
    have HH := Lib.hid (hZ7.hands hY7 (by rw [wipeZ_len]; exact HL.out.1) (HL.out.2) zZ_len zG_len)
    generalize hc7 : chipC (wipeZ zs gs k v) (gs) sn = c7 at HH
    have HC7 := Lib.hid hc7
    clear hZ7 hY7 hc7
    go_wp2_with (first
      | (with_reducible refine wpList_load_mid rfl 119 (.tmp 7) rfl (w.heap.size + 1 + 1) 0 rfl c7 _ HH.out.range Try.underlying119 rfl HH.out.size ?_)
      | (with_reducible refine wpList_store_mid rfl 119 (.tmp 6) (.tmp 34) rfl (w.heap.size + 1) 0 c7.toArray rfl rfl HH.out.room HH.out.size' HH.out.one ?_))
    refine bodyPost_ret (v := .agg c7.toArray) (results_cellC Try.results149 (by rfl) HH.out.back) rfl ?_
    exact ⟨by rw [HE.out.1, HE.out.2, HC7.out], below_setCellsC (hbz.setCell (p := ⟨w.heap.size + 1 + 1, 272, none⟩) (by show w.heap.size ≤ w.heap.size + 1 + 1; omega) _) (by omega) 0 c7⟩
  by_cases h8 : st = 8
  · subst h8
    clear h3 h6
    have HE : Hid (cycZ zs gs 8 k v = zs ∧ cycG gs 8 k = gs.set (k / 16) true) := Lib.hid ⟨by unfold cycZ; rw [if_neg (by omega), if_neg (by omega)], by unfold cycG; rw [if_pos rfl]⟩
    go_enter Try.func149, Try.ntmps149
    obtain ⟨c4, hc4⟩ : ∃ c4, c4 = chipC (zs) (gs.set (k / 16) true) 8 := ⟨_, rfl⟩
    rw [← hc4] at HGu
    have HC4 := Lib.hid hc4
    clear hc4
    have h6 : Below W3.heap.size W3 W3.drew := (Below.refl _ _).drew
    have HLd3' := Lib.hid ((BC.step HX3.out.1 h6).loads HL.out.1 HL.out.2)
    rw [HC0.out] at HLd3'
    go_wp2_with (first
      | (with_reducible refine wpList_alloc_at rfl 119 rfl zc HIn.out (w.heap.size + 1 + 1) HS1.out ?_)
      | (with_reducible refine wpList_alloc_big rfl 119 rfl zc HIn.out ?_)
      | (rw [← HW3.out]; with_reducible refine wpList_load_mid rfl 119 (.tmp 3) rfl w.heap.size 0 rfl c0 _ HLd3.out.range Try.underlying119 rfl HLd3.out.size ?_)
      | (rw [← HW1.out]; with_reducible refine wpList_load_mid rfl 119 (.tmp 3) rfl w.heap.size 0 rfl c0 _ HLd.out.range Try.underlying119 rfl HLd.out.size ?_)
      | (with_reducible refine wpList_store_mid rfl 119 (.tmp 7) (.tmp 8) rfl (w.heap.size + 1 + 1) 0 c0.toArray rfl rfl HSt.out.room HSt.out.size HSt.out.one ?_))
    rw [← HW3.out]
    refine wp_region_still_tail 3 (by kernel_rfl) (by kernel_rfl) ?_
    simp only [List.take_succ_cons, List.take_zero, List.drop_succ_cons, List.drop_zero]
    refine wpStill_load_mid rfl 119 (.tmp 3) rfl w.heap.size 0 rfl c0 _ HLd3'.out.range Try.underlying119 rfl HLd3'.out.size ?_
    still_step
    still_call ((HBo.out _).mono fun _ _ ⟨q1, q2⟩ => ⟨q1, q2.symm⟩)
    refine wpStill_nil ?_
    change wpList _ _ _ _ _ W3.drew
    generalize hWd : W3.drew = Wd at h6 HLd3' ⊢
    clear hWd
    clear HLd3'
    go_wp2_with fail
    refine (HGu.out Wd).mono ?_
    rintro e w4 ⟨rfl, hb4'⟩
    have hb4 := bt h6 hb4'
    clear h6 hb4'
    have HS4 := Lib.hid ((HX3.out.2.2.step hb4).stores (zs' := zs) (gs' := gs.set (k / 16) true) (st' := 8) HL.out.1 HL.out.2 (HL.out.1) (by rw [List.length_set]; exact HL.out.2))
    rw [← HC4.out] at HS4
    obtain ⟨W5, hW5⟩ : ∃ W5, W5 = w4.setCells (w.heap.size + 1 + 1) 0 c4 := ⟨_, rfl⟩
    have X5 : BC W5 w.heap.size zs gs 8 := by rw [hW5]; exact (HX3.out.1.step hb4).far' (by omega) _ _
    have Y5 : BC W5 (w.heap.size + 1) zZ zG 0 := by rw [hW5]; exact (HX3.out.2.1.step hb4).far' (by omega) _ _
    have Z5 : BC W5 (w.heap.size + 1 + 1) (zs) (gs.set (k / 16) true) 8 := by rw [hW5, HC4.out]; exact (HX3.out.2.2.step hb4).put ((HL.out.1 : _ = 256).trans HL.out.1.symm) ((by rw [List.length_set]; exact HL.out.2 : _ = 16).trans HL.out.2.symm)
    have hb5 : Below w.heap.size w W5 := by rw [hW5]; exact below_setCellsC (bt HB3.out hb4) (by omega) 0 _
    have HLd5 := Lib.hid (X5.loads HL.out.1 HL.out.2)
    rw [HC0.out] at HLd5
    have HX5 := Lib.hid (And.intro Y5 Z5)
    have HB5 := Lib.hid hb5
    have HW5 := Lib.hid hW5
    clear x2 hb4 X5 Y5 Z5 hb5 hW5 HX3 HB3 HLd HSt HLd3
    go_wp2_with (first
      | (with_reducible refine wpList_store_mid rfl 119 (.tmp 7) (.tmp 28) rfl (w.heap.size + 1 + 1) 0 c4.toArray rfl rfl HS4.out.room HS4.out.size HS4.out.one ?_)
      | (rw [← HW5.out]; with_reducible refine wpList_load_mid rfl 119 (.tmp 3) rfl w.heap.size 0 rfl c0 _ HLd5.out.range Try.underlying119 rfl HLd5.out.size ?_))
    refine (HN.out W5).mono ?_
    rintro e w6 ⟨rfl, hb6⟩
    have HZ6 := Lib.hid (HX5.out.2.step hb6)
    have HY6 := Lib.hid (HX5.out.1.step hb6)
    have hbz := bt HB5.out hb6
    clear hb6 HX5 HB5 HW5 HLd5
    have c6 := HZ6.out.state (HL.out.1) (by rw [List.length_set]; exact HL.out.2)
    have c6z := HZ6.out.frozen 272
    have hZ7 := HZ6.out.setS (HL.out.1) (by rw [List.length_set]; exact HL.out.2) sn
    have hY7 := HY6.out.far (p := ⟨w.heap.size + 1 + 1, 272, none⟩) (by show w.heap.size + 1 ≠ w.heap.size + 1 + 1; omega) (.int .i64 sn)
    have HH := Lib.hid (hZ7.hands hY7 (HL.out.1) (by rw [List.length_set]; exact HL.out.2) zZ_len zG_len)
    generalize hc7 : chipC (zs) (gs.set (k / 16) true) sn = c7 at HH
    have HC7 := Lib.hid hc7
    clear hZ7 hY7 hc7
    go_wp2_with (first
      | (with_reducible refine wpList_load_mid rfl 119 (.tmp 7) rfl (w.heap.size + 1 + 1) 0 rfl c7 _ HH.out.range Try.underlying119 rfl HH.out.size ?_)
      | (with_reducible refine wpList_store_mid rfl 119 (.tmp 6) (.tmp 34) rfl (w.heap.size + 1) 0 c7.toArray rfl rfl HH.out.room HH.out.size' HH.out.one ?_))
    refine bodyPost_ret (v := .agg c7.toArray) (results_cellC Try.results149 (by rfl) HH.out.back) rfl ?_
    exact ⟨by rw [HE.out.1, HE.out.2, HC7.out], below_setCellsC (hbz.setCell (p := ⟨w.heap.size + 1 + 1, 272, none⟩) (by show w.heap.size ≤ w.heap.size + 1 + 1; omega) _) (by omega) 0 c7⟩
  have q3 : (st == 3) = false := by simp [h3]
  have q6 : (st == 6) = false := by simp [h6]
  have q8 : (st == 8) = false := by simp [h8]
  have HE : Hid (cycZ zs gs st k v = zs ∧ cycG gs st k = gs) := Lib.hid ⟨by unfold cycZ; rw [if_neg h3, if_neg h6], by unfold cycG; rw [if_neg h8]⟩
  clear h3 h6 h8
  go_enter Try.func149, Try.ntmps149
  go_wp2_with (first
    | (with_reducible refine wpList_alloc_at rfl 119 rfl zc HIn.out (w.heap.size + 1 + 1) HS1.out ?_)
    | (with_reducible refine wpList_alloc_big rfl 119 rfl zc HIn.out ?_)
    | (rw [← HW3.out]; with_reducible refine wpList_load_mid rfl 119 (.tmp 3) rfl w.heap.size 0 rfl c0 _ HLd3.out.range Try.underlying119 rfl HLd3.out.size ?_)
    | (rw [← HW1.out]; with_reducible refine wpList_load_mid rfl 119 (.tmp 3) rfl w.heap.size 0 rfl c0 _ HLd.out.range Try.underlying119 rfl HLd.out.size ?_)
    | (with_reducible refine wpList_store_mid rfl 119 (.tmp 7) (.tmp 8) rfl (w.heap.size + 1 + 1) 0 c0.toArray rfl rfl HSt.out.room HSt.out.size HSt.out.one ?_))
  refine (HN.out W3).mono ?_
  rintro e w6 ⟨rfl, hb6⟩
  have HZ6 := Lib.hid (HX3.out.2.2.step hb6)
  have HY6 := Lib.hid (HX3.out.2.1.step hb6)
  have hbz := bt HB3.out hb6
  clear hb6 HX3 HB3 x2 HLd HSt HLd3
  have c6 := HZ6.out.state (HL.out.1) (HL.out.2)
  have c6z := HZ6.out.frozen 272
  have hZ7 := HZ6.out.setS (HL.out.1) (HL.out.2) sn
  have hY7 := HY6.out.far (p := ⟨w.heap.size + 1 + 1, 272, none⟩) (by show w.heap.size + 1 ≠ w.heap.size + 1 + 1; omega) (.int .i64 sn)
  have HH := Lib.hid (hZ7.hands hY7 (HL.out.1) (HL.out.2) zZ_len zG_len)
  generalize hc7 : chipC (zs) (gs) sn = c7 at HH
  have HC7 := Lib.hid hc7
  clear hZ7 hY7 hc7
  go_wp2_with (first
    | (with_reducible refine wpList_load_mid rfl 119 (.tmp 7) rfl (w.heap.size + 1 + 1) 0 rfl c7 _ HH.out.range Try.underlying119 rfl HH.out.size ?_)
    | (with_reducible refine wpList_store_mid rfl 119 (.tmp 6) (.tmp 34) rfl (w.heap.size + 1) 0 c7.toArray rfl rfl HH.out.room HH.out.size' HH.out.one ?_))
  refine bodyPost_ret (v := .agg c7.toArray) (results_cellC Try.results149 (by rfl) HH.out.back) rfl ?_
  exact ⟨by rw [HE.out.1, HE.out.2, HC7.out], below_setCellsC (hbz.setCell (p := ⟨w.heap.size + 1 + 1, 272, none⟩) (by show w.heap.size ≤ w.heap.size + 1 + 1; omega) _) (by omega) 0 c7⟩
end Go.Proofs.Ytngoijchebfolaa

/- The memory bus in plain words: which memories are valid, the regions, what a read gives and a write leaves. -/
namespace Go.Proofs.Ytngoijchebfolaa
open Go.RowKit

def okMem (r i : List Int) (zs : List Int) (gs : List Bool) (st : Int) : Bool := (decide (r.length = 256) && decide (i.length = 32)) && ((r.all byB && i.all byB) && okFlash zs gs st)
def adB (a : Int) : Bool := decide (0 ≤ a ∧ a ≤ 4095)
def regR (a : Int) : Int := if a < 256 then 1 else if a < 288 then 2 else if 512 ≤ a ∧ a ≤ 767 then 3 else 0
def regK (a : Int) : Int := if a < 256 then a else if a < 288 then a - 256 else if 512 ≤ a ∧ a ≤ 767 then a - 512 else 0
theorem adB_range {a : Int} (h : adB a = true) : 0 ≤ a ∧ a ≤ 4095 := by unfold adB at h; simpa using h
theorem adB_of {a : Int} (h : 0 ≤ a ∧ a ≤ 4095) : adB a = true := by unfold adB; simpa using h
theorem all_bytes {zs : List Int} (h : zs.all byB = true) : ∀ z ∈ zs, 0 ≤ z ∧ z ≤ 255 := fun z hz => byB_range (List.all_eq_true.1 h z hz)
theorem okMem_len {r i zs : List Int} {gs : List Bool} {st : Int} (h : okMem r i zs gs st = true) : r.length = 256 ∧ i.length = 32 ∧ r.all byB = true ∧ i.all byB = true ∧ okFlash zs gs st = true := by
  unfold okMem at h
  simp only [Bool.and_eq_true, decide_eq_true_eq] at h
  exact ⟨h.1.1, h.1.2, h.2.1.1, h.2.1.2, h.2.2⟩
theorem okMem_mk {r i zs : List Int} {gs : List Bool} {st : Int} (h1 : r.length = 256) (h2 : i.length = 32) (h3 : r.all byB = true) (h4 : i.all byB = true) (h5 : okFlash zs gs st = true) : okMem r i zs gs st = true := by
  unfold okMem; simp [h1, h2, h3, h4, h5]
theorem okMem_no1 (r i zs : List Int) (gs : List Bool) (st : Int) (h : r.length ≠ 256) : okMem r i zs gs st = false := by unfold okMem; simp [h]
theorem okMem_no2 (r i zs : List Int) (gs : List Bool) (st : Int) (h : i.length ≠ 32) : okMem r i zs gs st = false := by unfold okMem; simp [h]
theorem okMem_no3 (r i zs : List Int) (gs : List Bool) (st : Int) (h : r.all byB = false) : okMem r i zs gs st = false := by unfold okMem; simp [h]
theorem okMem_no4 (r i zs : List Int) (gs : List Bool) (st : Int) (h : i.all byB = false) : okMem r i zs gs st = false := by unfold okMem; simp [h]
theorem okMem_yes (r i zs : List Int) (gs : List Bool) (st : Int) (h1 : r.length = 256) (h2 : i.length = 32) (h3 : r.all byB = true) (h4 : i.all byB = true) : okMem r i zs gs st = okFlash zs gs st := by unfold okMem; simp [h1, h2, h3, h4]

/-- What is read at an address. -/
def getV (r i zs : List Int) (gs : List Bool) (rd : List Int → List Bool → Int → Nat → Int) (st a : Int) : Int :=
  if regR a = 1 then r.getD (regK a).toNat 0 else if regR a = 2 then i.getD (regK a).toNat 0 else if regR a = 3 then rd zs gs st (regK a).toNat else 255
/-- The memory behind a write. -/
def putR (r : List Int) (a v : Int) : List Int := if regR a = 1 then r.set (regK a).toNat v else r
def putI (i : List Int) (a v : Int) : List Int := if regR a = 2 ∧ 0 < regK a then i.set (regK a).toNat v else i
def putZ (zs : List Int) (gs : List Bool) (st a v : Int) : List Int := if regR a = 3 then cycZ zs gs st (regK a).toNat v.toNat else zs
def putG (gs : List Bool) (st a : Int) : List Bool := if regR a = 3 then cycG gs st (regK a).toNat else gs
def putS (st a v : Int) : Int := if regR a = 3 then nextS st (regK a) v else st
theorem putR_len (r : List Int) (a v : Int) : (putR r a v).length = r.length := by unfold putR; split <;> simp
theorem putI_len (i : List Int) (a v : Int) : (putI i a v).length = i.length := by unfold putI; split <;> simp
theorem putZ_len (zs : List Int) (gs : List Bool) (st a v : Int) : (putZ zs gs st a v).length = zs.length := by unfold putZ; split <;> simp [cycZ_len]
theorem putG_len (gs : List Bool) (st a : Int) : (putG gs st a).length = gs.length := by unfold putG; split <;> simp [cycG_len]

/-- The four ways of an address. -/
theorem reg_ways (k : Nat) (hk : k < 4096) : (k < 256 ∧ regR k = 1 ∧ regK k = k) ∨ (256 ≤ k ∧ k < 288 ∧ regR k = 2 ∧ regK k = ((k - 256 : Nat) : Int)) ∨ (512 ≤ k ∧ k < 768 ∧ regR k = 3 ∧ regK k = ((k - 512 : Nat) : Int)) ∨ (288 ≤ k ∧ (k < 512 ∨ 768 ≤ k) ∧ regR k = 0 ∧ regK k = 0) := by
  unfold regR regK
  by_cases h1 : k < 256
  · left; rw [if_pos (by omega), if_pos (by omega)]; exact ⟨h1, rfl, rfl⟩
  · right
    by_cases h2 : k < 288
    · left; rw [if_neg (by omega), if_pos (by omega), if_neg (by omega), if_pos (by omega)]; exact ⟨by omega, h2, rfl, by omega⟩
    · right
      by_cases h3 : 512 ≤ k ∧ k < 768
      · left; rw [if_neg (by omega), if_neg (by omega), if_pos (by omega), if_neg (by omega), if_neg (by omega), if_pos (by omega)]; exact ⟨h3.1, h3.2, rfl, by omega⟩
      · right; rw [if_neg (by omega), if_neg (by omega), if_neg (by omega), if_neg (by omega), if_neg (by omega), if_neg (by omega)]; exact ⟨by omega, by omega, rfl, rfl⟩
end Go.Proofs.Ytngoijchebfolaa

/- Contracts of Flash.identify, l01Bit, l03Read and both BusRead. -/
namespace Go.Proofs.Ytngoijchebfolaa
open Go.RowKit

def readV (zs : List Int) (gs : List Bool) (st : Int) (n : Nat) : Int :=
  if st = 7 then (if n % 4 = 0 then 32 else if n % 4 = 1 then 47 else if n % 4 = 2 then (if gs.getD (n / 16) false then 1 else 0) else 255) else zs.getD n 0
def readOf (zs : List Int) (gs : List Bool) (st a : Int) : Int × Int :=
  if okFlash zs gs st then (if byB a then (readV zs gs st a.toNat, 0) else (0, 4)) else (0, 1)

theorem quiet_same' {P : Program} {f : FuncId} {args : Array Value} {w : World} {n : Nat} {v : Value}
    (h : Calls P f args (w.drewN n) fun e w' => e = .returned v ∧ w.drewN n = w') : Calls P f args (w.drewN n) fun e w' => e = .returned v ∧ ∃ m, w' = w.drewN m :=
  h.mono fun _ _ ⟨he, hw⟩ => ⟨he, n, hw.symm⟩

set_option maxRecDepth 100000 in
theorem l01Bit (q : Bool) (w : World) : Calls Try.prog 119 #[.bool q] w fun e w' => e = .returned (.int .i64 (if q then 1 else 0)) ∧ w = w' := by
  cases q <;> (go_enter Try.func119, Try.ntmps119; go_wp2; go_ret; exact ⟨rfl, rfl⟩)

set_option maxRecDepth 100000 in
theorem l03Read (A C : Option Addr) (n c d k : Nat) (st : Int) (zs : List Int) (gs : List Bool) (w : World) (hl : zs.length = n) (hn : n = 256) (hm : gs.length = 16) (hk : k ≤ 255) (h : IntL w A zs) (g : BoolL w C gs) :
    Calls Try.prog 118 #[.agg #[.slice A n c, .slice C 16 d, .int .i64 st], .int .i64 k] w fun e w' => e = .returned (.int .i64 (readV zs gs st k)) ∧ Below w.heap.size w w' := by
  have hb0 := alloc_below w (.cells #[.slice A n c, .slice C 16 d, .int .i64 st] 26)
  have hdiv : k / 16 < 16 := by omega
  have hki : (k : Int) < (n : Int) := by omega
  by_cases h7 : st = 7
  · subst h7
    obtain ⟨b, off, rfl, hc⟩ := (g.below hb0) (k / 16) (by omega)
    have HR : Hid (∀ q, q = gs.getD (k / 16) false → readV zs gs 7 k = if k % 4 = 0 then 32 else if k % 4 = 1 then 47 else if k % 4 = 2 then (if q then 1 else 0) else 255) := Lib.hid (by intro q hq; subst hq; unfold readV; rw [if_pos rfl])
    generalize readV zs gs 7 k = r at HR
    have HR2 := Lib.hid (HR.out _ rfl)
    generalize gs.getD (k / 16) false = q at hc HR2
    have h4 : k % 4 = 0 ∨ k % 4 = 1 ∨ k % 4 = 2 ∨ k % 4 = 3 := by omega
    have ha := and_3 k (by omega)
    have hdi : ((k / 16 : Nat) : Int) < 16 := by omega
    clear hm g HR hl hn h
    rcases h4 with h4 | h4 | h4 | h4
    · have e : r = 32 := by rw [HR2.out, if_pos h4]
      rw [h4] at ha
      clear HR2 h4
      subst e
      go_enter Try.func118, Try.ntmps118
      go_wp2
      go_ret
      exact ⟨rfl, hb0⟩
    · have e : r = 47 := by rw [HR2.out, if_neg (by omega), if_pos h4]
      rw [h4] at ha
      clear HR2 h4
      subst e
      go_enter Try.func118, Try.ntmps118
      go_wp2
      go_ret
      exact ⟨rfl, hb0⟩
    · have e : r = if q then 1 else 0 := by rw [HR2.out, if_neg (by omega), if_neg (by omega), if_pos h4]
      rw [h4] at ha
      have HE := Lib.hid e
      clear HR2 h4 e
      cases q <;> (
        go_enter Try.func118, Try.ntmps118
        go_wp2_with (first | (go_at_call 119; refine (l01Bit _ _).mono ?_; rintro e w' ⟨rfl, rfl⟩))
        go_ret
        exact ⟨ret_int HE.out.symm, hb0⟩)
    · have e : r = 255 := by rw [HR2.out, if_neg (by omega), if_neg (by omega), if_neg (by omega)]
      rw [h4] at ha
      clear HR2 h4
      subst e
      go_enter Try.func118, Try.ntmps118
      go_wp2
      go_ret
      exact ⟨rfl, hb0⟩
  · have hq7 : (st != 7) = true := by simp [h7]
    obtain ⟨b, off, rfl, hc⟩ := (h.below hb0) k (by omega)
    have HE : Hid (readV zs gs st k = zs.getD k 0) := Lib.hid (by unfold readV; rw [if_neg h7])
    generalize readV zs gs st k = r at HE
    generalize zs.getD k 0 = z at hc HE
    clear hm g hl hn h h7
    go_enter Try.func118, Try.ntmps118
    go_wp2
    go_ret
    exact ⟨ret_int HE.out.symm, hb0⟩

theorem readOf_bad (zs : List Int) (gs : List Bool) (st a : Int) (h : okFlash zs gs st = false) : readOf zs gs st a = (0, 1) := by unfold readOf; simp [h]
theorem readOf_range (zs : List Int) (gs : List Bool) (st a : Int) (h : okFlash zs gs st = true) (h2 : byB a = false) : readOf zs gs st a = (0, 4) := by unfold readOf; simp [h, h2]
theorem readOf_ok (zs : List Int) (gs : List Bool) (st : Int) (k : Nat) (h : okFlash zs gs st = true) (h2 : byB k = true) : readOf zs gs st k = (readV zs gs st k, 0) := by unfold readOf; simp [h, h2]
theorem readV_7 (zs : List Int) (gs : List Bool) (k : Nat) : readV zs gs 7 k = readV [] gs 7 k := by unfold readV; rw [if_pos rfl, if_pos rfl]

end Go.Proofs.Ytngoijchebfolaa

/- Leaves of Go values as data: what a value says, rows of the call's own, what a call that writes into some of them keeps. Nothing here is of one type of the program. -/
namespace Go.Proofs.Ytngoijchebfolaa
open Go.RowKit

/-- What a leaf of a struct that is a slice says. -/
inductive Lf where
  | I (zs : List Int)
  | B (gs : List Bool)
  | S (ss : List ByteArray)
  | R (T : TypeId) (k : Nat) (hk : k ≤ 16) (rows : List (List Value))

/-- A row of structs, k cells each. -/
def RowL (w : World) (A : Option Addr) (k : Nat) (rows : List (List Value)) : Prop :=
  ∀ i, i < rows.length → ∀ j, j < k → ∃ b off, A = some ⟨b, off, none⟩ ∧ w.cell? ⟨b, off + i * k + j, none⟩ = some ((rows.getD i []).getD j undef)
theorem RowL.below {w w' : World} {A : Option Addr} {k : Nat} {rows : List (List Value)} (h : RowL w A k rows) (hb : Below w.heap.size w w') : RowL w' A k rows := fun i hi j hj => by
  obtain ⟨b, off, e, hc⟩ := h i hi j hj
  exact ⟨b, off, e, (hb.cell (cell_lt hc)).trans hc⟩
/-- A row of structs of the call's own. -/
def OwnR (w : World) (lo hi : Nat) (T : TypeId) (A : Option Addr) (k : Nat) (rows : List (List Value)) : Prop :=
  rows = [] ∨ ∃ b m f, A = some ⟨b, 0, none⟩ ∧ lo ≤ b ∧ b < hi ∧ rows.length * k ≤ m ∧ w.rowIs b T m f ∧ ∀ i, i < rows.length → ∀ j, j < k → f (i * k + j) = (rows.getD i []).getD j undef
theorem row_place {n k m i j : Nat} (hi : i < n) (hj : j < k) (h : n * k ≤ m) : i * k + j < m := by
  have h1 : (i + 1) * k ≤ n * k := Nat.mul_le_mul_right k hi
  have h2 : (i + 1) * k = i * k + k := Nat.succ_mul i k
  omega
theorem OwnR.reads {w : World} {lo hi : Nat} {T : TypeId} {A : Option Addr} {k : Nat} {rows : List (List Value)} (h : OwnR w lo hi T A k rows) : RowL w A k rows := fun i hi' j hj => by
  rcases h with rfl | ⟨b, m, f, e, _, _, hm, hr, hf⟩
  · simp at hi'
  · exact ⟨b, 0, e, by rw [← hf i hi' j hj, Nat.zero_add]; exact hr.cell (row_place hi' hj hm)⟩
theorem OwnR.btw {w w' : World} {lo hi l h' : Nat} {T : TypeId} {A : Option Addr} {k : Nat} {rows : List (List Value)} (h : OwnR w lo hi T A k rows) (hb : Btw l h' w w') (ho : hi ≤ l ∨ h' ≤ lo) : OwnR w' lo hi T A k rows := by
  rcases h with e | ⟨b, m, f, e, h1, h2, hm, hr, hf⟩
  · exact .inl e
  · exact .inr ⟨b, m, f, e, h1, h2, hm, hb.row hr (by omega), hf⟩
theorem OwnR.below {w w' : World} {lo hi : Nat} {T : TypeId} {A : Option Addr} {k : Nat} {rows : List (List Value)} (h : OwnR w lo hi T A k rows) (hb : Below w.heap.size w w') : OwnR w' lo hi T A k rows := h.btw (Btw.of_below hb hi hi) (.inl (Nat.le_refl _))
theorem OwnR.wide {w : World} {lo hi lo' hi' : Nat} {T : TypeId} {A : Option Addr} {k : Nat} {rows : List (List Value)} (h : OwnR w lo hi T A k rows) (h1 : lo' ≤ lo) (h2 : hi ≤ hi') : OwnR w lo' hi' T A k rows := by
  rcases h with e | ⟨b, m, f, e, p1, p2, hm, hr, hf⟩
  · exact .inl e
  · exact .inr ⟨b, m, f, e, by omega, by omega, hm, hr, hf⟩
/-- What a mark makes of a cell. -/
def markV (k : Nat) : Value → Value
  | .int _ _ => .int .i64 (k : Int)
  | .bool _ => .bool (decide (k % 3 = 0))
  | .string _ => .string (mkText k)
  | v => v
def markRows (q k : Nat) (rows : List (List Value)) : List (List Value) :=
  (List.range rows.length).map fun i => (List.range k).map fun j => markV (q + i * k + j) ((rows.getD i []).getD j undef)
theorem markRows_len (q k : Nat) (rows : List (List Value)) : (markRows q k rows).length = rows.length := by simp [markRows]

def Lf.len : Lf → Nat
  | .I zs => zs.length
  | .B gs => gs.length
  | .S ss => ss.length
  | .R _ k _ rows => rows.length * k
/-- How many elements a slice has. -/
def Lf.slen : Lf → Nat
  | .I zs => zs.length
  | .B gs => gs.length
  | .S ss => ss.length
  | .R _ _ _ rows => rows.length
/-- The size that the laws count. -/
def Lf.sz : Lf → Nat
  | .I zs => zs.length
  | .B gs => gs.length
  | .S ss => ss.length + lenS ss
  | .R _ _ _ rows => rows.length
def Lf.marks (k : Nat) : Lf → Lf
  | .I zs => .I (marksI k zs.length)
  | .B gs => .B (marksB k gs.length)
  | .S ss => .S (marksS k ss.length)
  | .R T n hn rows => .R T n hn (markRows k n rows)
theorem Lf.marks_len (k : Nat) (d : Lf) : (d.marks k).len = d.len := by cases d <;> simp [Lf.marks, Lf.len, marksI, marksB, marksS, markRows_len]
theorem Lf.marks_slen (k : Nat) (d : Lf) : (d.marks k).slen = d.slen := by cases d <;> simp [Lf.marks, Lf.slen, marksI, marksB, marksS, markRows_len]
theorem Lf.len_le (d : Lf) : d.len ≤ 16 * d.sz := by
  cases d with
  | I zs => simp only [Lf.len, Lf.sz]; omega
  | B zs => simp only [Lf.len, Lf.sz]; omega
  | S zs => simp only [Lf.len, Lf.sz]; omega
  | R T k hk rows =>
    simp only [Lf.len, Lf.sz]
    have := Nat.mul_le_mul_left rows.length hk
    omega
/-- Its strings are no longer than strings can be, its length no greater than lengths. -/
def Lf.fit : Lf → Prop
  | .I zs => zs.length ≤ maxLen
  | .B gs => gs.length ≤ maxLen
  | .S ss => ss.length ≤ maxLen ∧ FitS ss
  | .R _ _ _ rows => rows.length ≤ maxLen

def RepL (w : World) (v : Value) : Lf → Prop
  | .I zs => ∃ A c, v = .slice A zs.length c ∧ IntL w A zs
  | .B gs => ∃ A c, v = .slice A gs.length c ∧ BoolL w A gs
  | .S ss => ∃ A c, v = .slice A ss.length c ∧ StrL w A ss
  | .R _ k _ rows => ∃ A c, v = .slice A rows.length c ∧ RowL w A k rows
def OwnL (w : World) (lo hi : Nat) (v : Value) : Lf → Prop
  | .I zs => ∃ A c, v = .slice A zs.length c ∧ OwnI w lo hi A zs
  | .B gs => ∃ A c, v = .slice A gs.length c ∧ OwnB w lo hi A gs
  | .S ss => ∃ A c, v = .slice A ss.length c ∧ OwnS w lo hi A ss
  | .R T k _ rows => ∃ A c, v = .slice A rows.length c ∧ OwnR w lo hi T A k rows
/-- A slice's capacity is no less than its length. -/
def CapL (v : Value) : Prop := ∀ A n c, v = .slice A n c → n ≤ c
/-- The block of a slice that holds something. -/
def blkL : Value → Option Nat
  | .slice (some a) n _ => if n = 0 then none else some a.block
  | _ => none
theorem blkL_some {b off : Nat} {n c : Nat} (h : 0 < n) : blkL (.slice (some ⟨b, off, none⟩) n c) = some b := by simp [blkL]; omega
theorem blkL_zero (A : Option Addr) (c : Nat) : blkL (.slice A 0 c) = none := by cases A <;> simp [blkL]

def AllA (P : Value → Lf → Prop) : List Value → List Lf → Prop
  | [], [] => True
  | v :: vs, d :: ds => P v d ∧ AllA P vs ds
  | _, _ => False
def RepA (w : World) (vs : List Value) (ds : List Lf) : Prop := AllA (RepL w) vs ds
def OwnA (w : World) (lo hi : Nat) (vs : List Value) (ds : List Lf) : Prop := AllA (OwnL w lo hi) vs ds ∧ (vs.filterMap blkL).Nodup

theorem AllA.imp {P Q : Value → Lf → Prop} : ∀ {vs : List Value} {ds : List Lf}, (∀ v d, v ∈ vs → P v d → Q v d) → AllA P vs ds → AllA Q vs ds
  | [], [], _, _ => trivial
  | v :: vs, d :: ds, h, ⟨h1, h2⟩ => ⟨h v d (by simp) h1, AllA.imp (fun v' d' hm => h v' d' (by simp [hm])) h2⟩
  | [], _ :: _, _, h => h.elim
  | _ :: _, [], _, h => h.elim

theorem RepL.below {w w' : World} {v : Value} : ∀ {d : Lf}, RepL w v d → Below w.heap.size w w' → RepL w' v d
  | .I _, ⟨A, c, e, h⟩, hb => ⟨A, c, e, h.below hb⟩
  | .B _, ⟨A, c, e, h⟩, hb => ⟨A, c, e, h.below hb⟩
  | .S _, ⟨A, c, e, h⟩, hb => ⟨A, c, e, h.below hb⟩
  | .R _ _ _ _, ⟨A, c, e, h⟩, hb => ⟨A, c, e, h.below hb⟩
theorem RepA.below {w w' : World} {vs : List Value} {ds : List Lf} (h : RepA w vs ds) (hb : Below w.heap.size w w') : RepA w' vs ds := AllA.imp (fun _ _ _ h => h.below hb) h
theorem OwnL.below {w w' : World} {lo hi : Nat} {v : Value} : ∀ {d : Lf}, OwnL w lo hi v d → Below w.heap.size w w' → OwnL w' lo hi v d
  | .I _, ⟨A, c, e, h⟩, hb => ⟨A, c, e, h.below hb⟩
  | .B _, ⟨A, c, e, h⟩, hb => ⟨A, c, e, h.below hb⟩
  | .S _, ⟨A, c, e, h⟩, hb => ⟨A, c, e, h.below hb⟩
  | .R _ _ _ _, ⟨A, c, e, h⟩, hb => ⟨A, c, e, h.below hb⟩
theorem OwnL.btw {w w' : World} {lo hi l r : Nat} {v : Value} : ∀ {d : Lf}, OwnL w lo hi v d → Btw l r w w' → (hi ≤ l ∨ r ≤ lo) → OwnL w' lo hi v d
  | .I _, ⟨A, c, e, h⟩, hb, ho => ⟨A, c, e, h.btw hb ho⟩
  | .B _, ⟨A, c, e, h⟩, hb, ho => ⟨A, c, e, h.btw hb ho⟩
  | .S _, ⟨A, c, e, h⟩, hb, ho => ⟨A, c, e, h.btw hb ho⟩
  | .R _ _ _ _, ⟨A, c, e, h⟩, hb, ho => ⟨A, c, e, h.btw hb ho⟩
theorem OwnL.wide {w : World} {lo hi lo' hi' : Nat} {v : Value} : ∀ {d : Lf}, OwnL w lo hi v d → lo' ≤ lo → hi ≤ hi' → OwnL w lo' hi' v d
  | .I _, ⟨A, c, e, h⟩, h1, h2 => ⟨A, c, e, h.wideB h1 h2⟩
  | .B _, ⟨A, c, e, h⟩, h1, h2 => ⟨A, c, e, h.wide h1 h2⟩
  | .S _, ⟨A, c, e, h⟩, h1, h2 => ⟨A, c, e, h.wide h1 h2⟩
  | .R _ _ _ _, ⟨A, c, e, h⟩, h1, h2 => ⟨A, c, e, h.wide h1 h2⟩
theorem OwnL.reads {w : World} {lo hi : Nat} {v : Value} : ∀ {d : Lf}, OwnL w lo hi v d → RepL w v d
  | .I _, ⟨A, c, e, h⟩ => ⟨A, c, e, h.reads⟩
  | .B _, ⟨A, c, e, h⟩ => ⟨A, c, e, h.reads⟩
  | .S _, ⟨A, c, e, h⟩ => ⟨A, c, e, h.reads⟩
  | .R _ _ _ _, ⟨A, c, e, h⟩ => ⟨A, c, e, h.reads⟩
theorem OwnL.form {w : World} {lo hi : Nat} {v : Value} : ∀ {d : Lf}, OwnL w lo hi v d → ∃ A c, v = .slice A d.slen c
  | .I _, ⟨A, c, e, _⟩ => ⟨A, c, e⟩
  | .B _, ⟨A, c, e, _⟩ => ⟨A, c, e⟩
  | .S _, ⟨A, c, e, _⟩ => ⟨A, c, e⟩
  | .R _ _ _ _, ⟨A, c, e, _⟩ => ⟨A, c, e⟩
theorem RepL.form {w : World} {v : Value} : ∀ {d : Lf}, RepL w v d → ∃ A c, v = .slice A d.slen c
  | .I _, ⟨A, c, e, _⟩ => ⟨A, c, e⟩
  | .B _, ⟨A, c, e, _⟩ => ⟨A, c, e⟩
  | .S _, ⟨A, c, e, _⟩ => ⟨A, c, e⟩
  | .R _ _ _ _, ⟨A, c, e, _⟩ => ⟨A, c, e⟩
theorem OwnA.below {w w' : World} {lo hi : Nat} {vs : List Value} {ds : List Lf} (h : OwnA w lo hi vs ds) (hb : Below w.heap.size w w') : OwnA w' lo hi vs ds := ⟨AllA.imp (fun _ _ _ h => h.below hb) h.1, h.2⟩
theorem OwnA.btw {w w' : World} {lo hi l r : Nat} {vs : List Value} {ds : List Lf} (h : OwnA w lo hi vs ds) (hb : Btw l r w w') (ho : hi ≤ l ∨ r ≤ lo) : OwnA w' lo hi vs ds := ⟨AllA.imp (fun _ _ _ h => h.btw hb ho) h.1, h.2⟩
theorem OwnA.wide {w : World} {lo hi lo' hi' : Nat} {vs : List Value} {ds : List Lf} (h : OwnA w lo hi vs ds) (h1 : lo' ≤ lo) (h2 : hi ≤ hi') : OwnA w lo' hi' vs ds := ⟨AllA.imp (fun _ _ _ h => h.wide h1 h2) h.1, h.2⟩
theorem OwnA.reads {w : World} {lo hi : Nat} {vs : List Value} {ds : List Lf} (h : OwnA w lo hi vs ds) : RepA w vs ds := AllA.imp (fun _ _ _ h => h.reads) h.1

/-- A leaf's own block alone has turned. -/
structure Touch (vs : List Value) (w w' : World) : Prop where
  os : w'.os = w.os
  tape : w'.tape = w.tape
  output : w'.output = w.output
  size : w.heap.size ≤ w'.heap.size
  block : ∀ k, k < w.heap.size → k ∉ vs.filterMap blkL → w'.heap[k]? = w.heap[k]?
theorem Touch.refl (vs : List Value) (w : World) : Touch vs w w := ⟨rfl, rfl, rfl, Nat.le_refl _, fun _ _ _ => rfl⟩
theorem Touch.trans {vs us : List Value} {a b c : World} (h : Touch vs a b) (k : Touch us b c) : Touch (vs ++ us) a c :=
  ⟨k.os.trans h.os, k.tape.trans h.tape, k.output.trans h.output, Nat.le_trans h.size k.size, fun i hi hn => by
    rw [List.filterMap_append, List.mem_append] at hn
    exact (k.block i (Nat.lt_of_lt_of_le hi h.size) (fun h => hn (.inr h))).trans (h.block i hi (fun h => hn (.inl h)))⟩
theorem Touch.of_below {w w' : World} (h : Below w.heap.size w w') (vs : List Value) : Touch vs w w' := ⟨h.os, h.tape, h.output, h.size, fun k hk _ => h.block k hk⟩
theorem Touch.more {vs us : List Value} {w w' : World} (h : Touch vs w w') (hs : ∀ k, k ∈ vs.filterMap blkL → k ∈ us.filterMap blkL) : Touch us w w' := ⟨h.os, h.tape, h.output, h.size, fun k hk hn => h.block k hk (fun h => hn (hs k h))⟩
theorem OwnL.blk {w : World} {lo hi : Nat} {v : Value} {b : Nat} (hb : blkL v = some b) : ∀ {d : Lf}, OwnL w lo hi v d → lo ≤ b ∧ b < hi
  | .I zs, ⟨A, c, e, h⟩ => by
    subst e
    rcases h with rfl | ⟨g, m, f, rfl, h1, h2, _⟩
    · rw [List.length_nil, blkL_zero] at hb; cases hb
    · rcases Nat.eq_zero_or_pos zs.length with hz | hz
      · rw [hz, blkL_zero] at hb; cases hb
      · rw [blkL_some hz] at hb; injection hb with hb; subst hb; exact ⟨h1, h2⟩
  | .B zs, ⟨A, c, e, h⟩ => by
    subst e
    rcases h with rfl | ⟨g, m, f, rfl, h1, h2, _⟩
    · rw [List.length_nil, blkL_zero] at hb; cases hb
    · rcases Nat.eq_zero_or_pos zs.length with hz | hz
      · rw [hz, blkL_zero] at hb; cases hb
      · rw [blkL_some hz] at hb; injection hb with hb; subst hb; exact ⟨h1, h2⟩
  | .S zs, ⟨A, c, e, h⟩ => by
    subst e
    rcases h with rfl | ⟨g, m, f, rfl, h1, h2, _⟩
    · rw [List.length_nil, blkL_zero] at hb; cases hb
    · rcases Nat.eq_zero_or_pos zs.length with hz | hz
      · rw [hz, blkL_zero] at hb; cases hb
      · rw [blkL_some hz] at hb; injection hb with hb; subst hb; exact ⟨h1, h2⟩
  | .R _ _ _ zs, ⟨A, c, e, h⟩ => by
    subst e
    rcases h with rfl | ⟨g, m, f, rfl, h1, h2, _⟩
    · rw [List.length_nil, blkL_zero] at hb; cases hb
    · rcases Nat.eq_zero_or_pos zs.length with hz | hz
      · rw [hz, blkL_zero] at hb; cases hb
      · rw [blkL_some hz] at hb; injection hb with hb; subst hb; exact ⟨h1, h2⟩
theorem AllA.mem {P : Value → Lf → Prop} : ∀ {vs : List Value} {ds : List Lf} {v : Value}, AllA P vs ds → v ∈ vs → ∃ d, P v d
  | v :: vs, d :: ds, u, ⟨h1, h2⟩, hm => by
    rcases List.mem_cons.1 hm with rfl | hm
    · exact ⟨d, h1⟩
    · exact AllA.mem h2 hm
  | [], [], _, _, hm => by cases hm
theorem OwnA.blk {w : World} {lo hi : Nat} {vs : List Value} {ds : List Lf} (h : OwnA w lo hi vs ds) {b : Nat} (hb : b ∈ vs.filterMap blkL) : lo ≤ b ∧ b < hi := by
  obtain ⟨v, hv, he⟩ := List.mem_filterMap.1 hb
  obtain ⟨d, hd⟩ := h.1.mem hv
  exact hd.blk he
theorem Touch.btw {w w' : World} {lo hi : Nat} {vs : List Value} {ds : List Lf} (h : OwnA w lo hi vs ds) (t : Touch vs w w') : Btw lo hi w w' :=
  ⟨t.os, t.tape, t.output, t.size, fun k hk ho => t.block k hk (fun hm => by have := h.blk hm; omega)⟩
/-- An owned leaf whose block is not among those that turned is as it was. -/
theorem OwnL.away {w w' : World} {lo hi : Nat} {v : Value} {us : List Value} (t : Touch us w w') (hn : ∀ b, blkL v = some b → b ∉ us.filterMap blkL) : ∀ {d : Lf}, OwnL w lo hi v d → OwnL w' lo hi v d
  | .I zs, ⟨A, c, e, h⟩ => by
    refine ⟨A, c, e, ?_⟩
    rcases h with h | ⟨g, m, f, rfl, h1, h2, hm, hr, hf⟩
    · exact .inl h
    · by_cases hz : zs = []
      · exact .inl hz
      · exact .inr ⟨g, m, f, rfl, h1, h2, hm, hr.of_block (t.block g hr.lt (hn g (by rw [e]; exact blkL_some (List.length_pos_iff.2 hz)))), hf⟩
  | .B zs, ⟨A, c, e, h⟩ => by
    refine ⟨A, c, e, ?_⟩
    rcases h with h | ⟨g, m, f, rfl, h1, h2, hm, hr, hf⟩
    · exact .inl h
    · by_cases hz : zs = []
      · exact .inl hz
      · exact .inr ⟨g, m, f, rfl, h1, h2, hm, hr.of_block (t.block g hr.lt (hn g (by rw [e]; exact blkL_some (List.length_pos_iff.2 hz)))), hf⟩
  | .S zs, ⟨A, c, e, h⟩ => by
    refine ⟨A, c, e, ?_⟩
    rcases h with h | ⟨g, m, f, rfl, h1, h2, hm, hr, hf⟩
    · exact .inl h
    · by_cases hz : zs = []
      · exact .inl hz
      · exact .inr ⟨g, m, f, rfl, h1, h2, hm, hr.of_block (t.block g hr.lt (hn g (by rw [e]; exact blkL_some (List.length_pos_iff.2 hz)))), hf⟩
  | .R _ _ _ zs, ⟨A, c, e, h⟩ => by
    refine ⟨A, c, e, ?_⟩
    rcases h with h | ⟨g, m, f, rfl, h1, h2, hm, hr, hf⟩
    · exact .inl h
    · by_cases hz : zs = []
      · exact .inl hz
      · exact .inr ⟨g, m, f, rfl, h1, h2, hm, hr.of_block (t.block g hr.lt (hn g (by rw [e]; exact blkL_some (List.length_pos_iff.2 hz)))), hf⟩
theorem OwnA.away {w w' : World} {lo hi : Nat} {vs us : List Value} {ds : List Lf} (t : Touch us w w') (hn : ∀ b, b ∈ vs.filterMap blkL → b ∉ us.filterMap blkL) (h : OwnA w lo hi vs ds) : OwnA w' lo hi vs ds :=
  ⟨AllA.imp (fun v _ hv h => h.away t (fun b hb => hn b (List.mem_filterMap.2 ⟨v, hv, hb⟩))) h.1, h.2⟩
theorem OwnA.cons {w : World} {lo hi : Nat} {v : Value} {vs : List Value} {d : Lf} {ds : List Lf} (h1 : OwnL w lo hi v d) (h2 : OwnA w lo hi vs ds) (hn : ∀ b, blkL v = some b → b ∉ vs.filterMap blkL) : OwnA w lo hi (v :: vs) (d :: ds) := by
  refine ⟨⟨h1, h2.1⟩, ?_⟩
  rw [List.filterMap_cons]
  cases hb : blkL v with
  | none => exact h2.2
  | some b => exact List.nodup_cons.2 ⟨hn b hb, h2.2⟩
theorem OwnA.uncons {w : World} {lo hi : Nat} {v : Value} {vs : List Value} {d : Lf} {ds : List Lf} (h : OwnA w lo hi (v :: vs) (d :: ds)) : OwnL w lo hi v d ∧ OwnA w lo hi vs ds ∧ ∀ b, blkL v = some b → b ∉ vs.filterMap blkL := by
  obtain ⟨⟨h1, h2⟩, h3⟩ := h
  rw [List.filterMap_cons] at h3
  cases hb : blkL v with
  | none => rw [hb] at h3; exact ⟨h1, ⟨h2, h3⟩, fun b hb' => by cases hb'⟩
  | some b => rw [hb] at h3; exact ⟨h1, ⟨h2, (List.nodup_cons.1 h3).2⟩, fun b' hb' => by injection hb' with e; subst e; exact (List.nodup_cons.1 h3).1⟩
theorem OwnA.nil (w : World) (lo hi : Nat) : OwnA w lo hi [] [] := ⟨trivial, List.nodup_nil⟩
/-- Rows of two ranges are of two blocks. -/
theorem OwnA.append {w : World} {lo hi lo' hi' L R : Nat} {vs us : List Value} {ds es : List Lf} (h : OwnA w lo hi vs ds) (k : OwnA w lo' hi' us es) (ho : hi ≤ lo' ∨ hi' ≤ lo) (h1 : L ≤ lo) (h2 : L ≤ lo') (h3 : hi ≤ R) (h4 : hi' ≤ R) : OwnA w L R (vs ++ us) (ds ++ es) := by
  have aux : ∀ {vs : List Value} {ds : List Lf}, AllA (OwnL w L R) vs ds → AllA (OwnL w L R) us es → AllA (OwnL w L R) (vs ++ us) (ds ++ es) := by
    intro vs
    induction vs with
    | nil => intro ds a b; cases ds with
      | nil => exact b
      | cons d ds => exact a.elim
    | cons v vs ih => intro ds a b; cases ds with
      | nil => exact a.elim
      | cons d ds => exact ⟨a.1, ih a.2 b⟩
  refine ⟨aux (h.wide h1 h3).1 (k.wide h2 h4).1, ?_⟩
  rw [List.filterMap_append, List.nodup_append]
  refine ⟨h.2, k.2, fun a ha b hb e => ?_⟩
  subst e
  have := h.blk ha
  have := k.blk hb
  omega
end Go.Proofs.Ytngoijchebfolaa

/- The laws' own functions over []int, []bool, []string, on leaves. -/
namespace Go.Proofs.Ytngoijchebfolaa
open Go.RowKit

/-- The call hands back a slice of its own. -/
def GivesL (n : Nat) (d : Lf) (w : World) (e : Ending) (w' : World) : Prop := ∃ A c, e = .returned (.slice A n c) ∧ Hid (OwnL w' w.heap.size w'.heap.size (.slice A n c) d) ∧ Hid (CapL (.slice A n c)) ∧ Below w.heap.size w w'
/-- The call has marked a slice. -/
def MarkedL (lo hi : Nat) (v : Value) (d : Lf) (k : Nat) (w : World) (e : Ending) (w' : World) : Prop := e = .returned (.int .i64 ((k + d.len : Nat) : Int)) ∧ Hid (OwnL w' lo hi v (d.marks k)) ∧ Touch [v] w w'
theorem capL {A : Option Addr} {n c : Nat} (h : n ≤ c) : CapL (.slice A n c) := fun A' n' c' e => by injection e with _ e2 e3; omega
theorem touch_none {w w' : World} {A : Option Addr} {c : Nat} (h : Btw 0 0 w w') : Touch [.slice A 0 c] w w' := ⟨h.os, h.tape, h.output, h.size, fun k hk _ => h.block k hk (.inr (Nat.zero_le _))⟩
theorem touch_blk {w w' : World} {g n c : Nat} (hn : 0 < n) (h : Btw g (g + 1) w w') : Touch [.slice (some ⟨g, 0, none⟩) n c] w w' := ⟨h.os, h.tape, h.output, h.size, fun k hk hm => h.block k hk (by
  have : k ≠ g := by rintro rfl; exact hm (by simp [blkL_some hn])
  omega)⟩

set_option maxRecDepth 100000 in
theorem szLI (v : Value) (zs : List Int) (left : Int) (w : World) (h : RepL w v (.I zs)) (hf : (Lf.I zs).fit) (h0 : 0 ≤ left) (h1 : left ≤ 1048576) :
    Calls Try.prog 56 #[v, .int .i64 left] w (Left left (Lf.sz (.I zs)) w) := by
  obtain ⟨A, c, rfl, hr⟩ := h
  exact szIntS A zs.length c left w hf h0 h1
set_option maxRecDepth 100000 in
theorem toLI (v : Value) (zs : List Int) (w : World) (h : RepL w v (.I zs)) (hn : zs.length ≤ 1048576) :
    Calls Try.prog 61 #[v] w (GivesL zs.length (.I zs) w) := by
  obtain ⟨A, c, rfl, hr⟩ := h
  refine (toIntSc A zs.length c zs w rfl hn hr).mono ?_
  rintro e w' ⟨A1, n1, c1, rfl, L1, S1, K1, hb1⟩
  have := L1.out
  subst this
  exact ⟨_, _, rfl, Lib.hid ⟨A1, c1, rfl, S1.out⟩, Lib.hid (capL K1), hb1⟩
set_option maxRecDepth 100000 in
theorem eqLI (v v' : Value) (zs : List Int) (w : World) (h : RepL w v (.I zs)) (h' : RepL w v' (.I zs)) (hn : zs.length ≤ maxLen) :
    Calls Try.prog 69 #[v, v'] w fun e w' => e = .returned (.bool true) ∧ Below w.heap.size w w' := by
  obtain ⟨A, c, rfl, hr⟩ := h
  obtain ⟨A', c', rfl, hr'⟩ := h'
  exact eqIntSame A A' zs.length zs.length c c' zs w rfl rfl hn hr hr'
set_option maxRecDepth 100000 in
theorem markLI (v : Value) (zs : List Int) (k lo hi : Nat) (w : World) (h : OwnL w lo hi v (.I zs)) (hk : 1 ≤ k) (hn : zs.length ≤ 4294967296) (hk2 : k ≤ 549755813888) :
    Calls Try.prog 71 #[v, .int .i64 (k : Int)] w (MarkedL lo hi v (.I zs) k w) := by
  obtain ⟨A, c, rfl, ho⟩ := h
  rcases Nat.eq_zero_or_pos zs.length with hz | hz
  · have hz' : zs = [] := List.eq_nil_of_length_eq_zero hz
    subst hz'
    refine (markIntSs A 0 c k 0 0 [] w rfl hk (by omega) (by omega) (.inl rfl)).mono ?_
    rintro e w' ⟨rfl, S, hb⟩
    exact ⟨rfl, Lib.hid ⟨A, c, rfl, .inl rfl⟩, touch_none hb⟩
  · rcases ho with rfl | ⟨b, m, f, rfl, h1, h2, hm, hr, hf⟩
    · simp at hz
    · refine (markIntSs _ zs.length c k b (b + 1) zs w rfl hk (by omega) (by omega) (.inr ⟨b, m, f, rfl, Nat.le_refl _, Nat.lt_succ_self _, hm, hr, hf⟩)).mono ?_
      rintro e w' ⟨rfl, S, hb⟩
      exact ⟨rfl, Lib.hid ⟨_, c, by simp [marksI], S.out.wideB h1 h2⟩, touch_blk hz hb⟩
set_option maxRecDepth 100000 in
theorem heldLI (v : Value) (zs : List Int) (k : Nat) (w : World) (h : RepL w v ((Lf.I zs).marks k)) (hk : 1 ≤ k) (hn : zs.length ≤ 4294967296) (hk2 : k ≤ 549755813888) :
    Calls Try.prog 73 #[v, .int .i64 (k : Int)] w fun e w' => e = .returned (.int .i64 ((k + (Lf.I zs).len : Nat) : Int)) ∧ Below w.heap.size w w' := by
  obtain ⟨A, c, rfl, hr⟩ := h
  have hl : (marksI k zs.length).length = zs.length := by simp [marksI]
  rw [hl]
  refine (heldIntS A zs.length c k w hk (by omega) hr).mono ?_
  rintro e w' ⟨rfl, hb⟩
  exact ⟨rfl, hb ▸ Below.refl _ _⟩
set_option maxRecDepth 100000 in
theorem szLB (v : Value) (zs : List Bool) (left : Int) (w : World) (h : RepL w v (.B zs)) (hf : (Lf.B zs).fit) (h0 : 0 ≤ left) (h1 : left ≤ 1048576) :
    Calls Try.prog 96 #[v, .int .i64 left] w (Left left (Lf.sz (.B zs)) w) := by
  obtain ⟨A, c, rfl, hr⟩ := h
  exact szBoolS A zs.length c left w hf h0 h1
set_option maxRecDepth 100000 in
theorem toLB (v : Value) (zs : List Bool) (w : World) (h : RepL w v (.B zs)) (hn : zs.length ≤ 1048576) :
    Calls Try.prog 101 #[v] w (GivesL zs.length (.B zs) w) := by
  obtain ⟨A, c, rfl, hr⟩ := h
  refine (toBoolS A zs.length c zs w rfl hn hr).mono ?_
  rintro e w' ⟨A1, n1, c1, rfl, L1, S1, K1, hb1⟩
  have := L1.out
  subst this
  exact ⟨_, _, rfl, Lib.hid ⟨A1, c1, rfl, S1.out⟩, Lib.hid (capL K1), hb1⟩
set_option maxRecDepth 100000 in
theorem eqLB (v v' : Value) (zs : List Bool) (w : World) (h : RepL w v (.B zs)) (h' : RepL w v' (.B zs)) (hn : zs.length ≤ maxLen) :
    Calls Try.prog 107 #[v, v'] w fun e w' => e = .returned (.bool true) ∧ Below w.heap.size w w' := by
  obtain ⟨A, c, rfl, hr⟩ := h
  obtain ⟨A', c', rfl, hr'⟩ := h'
  exact eqBoolSame A A' zs.length zs.length c c' zs w rfl rfl hn hr hr'
set_option maxRecDepth 100000 in
theorem markLB (v : Value) (zs : List Bool) (k lo hi : Nat) (w : World) (h : OwnL w lo hi v (.B zs)) (hk : 1 ≤ k) (hn : zs.length ≤ 4294967296) (hk2 : k ≤ 549755813888) :
    Calls Try.prog 108 #[v, .int .i64 (k : Int)] w (MarkedL lo hi v (.B zs) k w) := by
  obtain ⟨A, c, rfl, ho⟩ := h
  rcases Nat.eq_zero_or_pos zs.length with hz | hz
  · have hz' : zs = [] := List.eq_nil_of_length_eq_zero hz
    subst hz'
    refine (markBoolS A 0 c k 0 0 [] w rfl hk (by omega) (by omega) (.inl rfl)).mono ?_
    rintro e w' ⟨rfl, S, hb⟩
    exact ⟨rfl, Lib.hid ⟨A, c, rfl, .inl rfl⟩, touch_none hb⟩
  · rcases ho with rfl | ⟨b, m, f, rfl, h1, h2, hm, hr, hf⟩
    · simp at hz
    · refine (markBoolS _ zs.length c k b (b + 1) zs w rfl hk (by omega) (by omega) (.inr ⟨b, m, f, rfl, Nat.le_refl _, Nat.lt_succ_self _, hm, hr, hf⟩)).mono ?_
      rintro e w' ⟨rfl, S, hb⟩
      exact ⟨rfl, Lib.hid ⟨_, c, by simp [marksB], S.out.wide h1 h2⟩, touch_blk hz hb⟩
set_option maxRecDepth 100000 in
theorem heldLB (v : Value) (zs : List Bool) (k : Nat) (w : World) (h : RepL w v ((Lf.B zs).marks k)) (hk : 1 ≤ k) (hn : zs.length ≤ 4294967296) (hk2 : k ≤ 549755813888) :
    Calls Try.prog 109 #[v, .int .i64 (k : Int)] w fun e w' => e = .returned (.int .i64 ((k + (Lf.B zs).len : Nat) : Int)) ∧ Below w.heap.size w w' := by
  obtain ⟨A, c, rfl, hr⟩ := h
  have hl : (marksB k zs.length).length = zs.length := by simp [marksB]
  rw [hl]
  refine (heldBoolS A zs.length c k w hk (by omega) hr).mono ?_
  rintro e w' ⟨rfl, hb⟩
  exact ⟨rfl, hb ▸ Below.refl _ _⟩
end Go.Proofs.Ytngoijchebfolaa

/- Lists of leaves: their sizes, marks and segments. -/
namespace Go.Proofs.Ytngoijchebfolaa
open Go.RowKit

def lenA : List Lf → Nat
  | [] => 0
  | d :: ds => d.len + lenA ds
def szA : List Lf → Nat
  | [] => 0
  | d :: ds => d.sz + szA ds
def marksA : Nat → List Lf → List Lf
  | _, [] => []
  | k, d :: ds => d.marks k :: marksA (k + d.len) ds
def FitA (ds : List Lf) : Prop := ∀ d ∈ ds, d.fit
def BndA (ds : List Lf) : Prop := ∀ d ∈ ds, d.len ≤ 4294967296
def CapA (vs : List Value) : Prop := ∀ v ∈ vs, CapL v
theorem lenA_app (a b : List Lf) : lenA (a ++ b) = lenA a + lenA b := by
  induction a with
  | nil => simp [lenA]
  | cons d ds ih => simp [lenA, ih]; omega
theorem marksA_app (k : Nat) (a b : List Lf) : marksA k (a ++ b) = marksA k a ++ marksA (k + lenA a) b := by
  induction a generalizing k with
  | nil => simp [marksA, lenA]
  | cons d ds ih => simp [marksA, lenA, ih, Nat.add_assoc]
theorem szA_len (ds : List Lf) : lenA ds ≤ 16 * szA ds := by
  induction ds with
  | nil => simp [lenA, szA]
  | cons d ds ih => have := d.len_le; simp [lenA, szA]; omega
theorem lenA_mem {ds : List Lf} {d : Lf} (h : d ∈ ds) : d.len ≤ lenA ds := by
  induction ds with
  | nil => cases h
  | cons e ds ih =>
    rcases List.mem_cons.1 h with rfl | h
    · simp [lenA]
    · have := ih h; simp [lenA]; omega
theorem CapA.cons {v : Value} {vs : List Value} (h : CapL v) (k : CapA vs) : CapA (v :: vs) := fun u hu => by
  rcases List.mem_cons.1 hu with rfl | hu
  · exact h
  · exact k u hu
theorem CapA.nil : CapA [] := fun _ h => by cases h
theorem CapA.app {a b : List Value} (h : CapA a) (k : CapA b) : CapA (a ++ b) := fun u hu => by
  rcases List.mem_append.1 hu with hu | hu
  · exact h u hu
  · exact k u hu
theorem CapA.sub {a b : List Value} (h : CapA a) (hs : ∀ v ∈ b, v ∈ a) : CapA b := fun u hu => h u (hs u hu)
theorem FitA.sub {a b : List Lf} (h : FitA a) (hs : ∀ d ∈ b, d ∈ a) : FitA b := fun u hu => h u (hs u hu)
theorem BndA.sub {a b : List Lf} (h : BndA a) (hs : ∀ d ∈ b, d ∈ a) : BndA b := fun u hu => h u (hs u hu)
theorem BndA.of_len {ds : List Lf} (h : lenA ds ≤ 4294967296) : BndA ds := fun _ hd => Nat.le_trans (lenA_mem hd) h

theorem AllA.split {P : Value → Lf → Prop} : ∀ {a b : List Value} {da db : List Lf}, a.length = da.length → AllA P (a ++ b) (da ++ db) → AllA P a da ∧ AllA P b db
  | [], _, [], _, _, h => ⟨trivial, h⟩
  | _ :: _, _, _ :: _, _, hl, h => by
    have := AllA.split (by simpa using hl) h.2
    exact ⟨⟨h.1, this.1⟩, this.2⟩
  | [], _, _ :: _, _, hl, _ => by simp at hl
  | _ :: _, _, [], _, hl, _ => by simp at hl
theorem AllA.join {P : Value → Lf → Prop} : ∀ {a b : List Value} {da db : List Lf}, AllA P a da → AllA P b db → AllA P (a ++ b) (da ++ db)
  | [], _, [], _, _, k => k
  | _ :: _, _, _ :: _, _, h, k => ⟨h.1, AllA.join h.2 k⟩
  | [], _, _ :: _, _, h, _ => h.elim
  | _ :: _, _, [], _, h, _ => h.elim
theorem RepA.seg {w : World} {a m b : List Value} {da dm db : List Lf} (h : RepA w (a ++ (m ++ b)) (da ++ (dm ++ db))) (h1 : a.length = da.length) (h2 : m.length = dm.length) : RepA w m dm :=
  (AllA.split h2 (AllA.split h1 h).2).1
theorem OwnA.seg {w : World} {lo hi : Nat} {a m b : List Value} {da dm db : List Lf} (h : OwnA w lo hi (a ++ (m ++ b)) (da ++ (dm ++ db))) (h1 : a.length = da.length) (h2 : m.length = dm.length) : OwnA w lo hi m dm := by
  refine ⟨(AllA.split h2 (AllA.split h1 h.1).2).1, ?_⟩
  have := h.2
  rw [List.filterMap_append, List.filterMap_append, List.nodup_append] at this
  exact (List.nodup_append.1 this.2.1).1
/-- A segment was written anew, and nothing else. -/
theorem OwnA.reseg {w w' : World} {lo hi : Nat} {a m b : List Value} {da dm dm' db : List Lf} (h : OwnA w lo hi (a ++ (m ++ b)) (da ++ (dm ++ db))) (h1 : a.length = da.length) (h2 : m.length = dm.length) (k : OwnA w' lo hi m dm') (t : Touch m w w') : OwnA w' lo hi (a ++ (m ++ b)) (da ++ (dm' ++ db)) := by
  obtain ⟨ha, hmb⟩ := AllA.split h1 h.1
  obtain ⟨_, hb⟩ := AllA.split h2 hmb
  have hn := h.2
  rw [List.filterMap_append, List.filterMap_append, List.nodup_append] at hn
  obtain ⟨_, n2, n3⟩ := hn
  obtain ⟨_, _, n5⟩ := List.nodup_append.1 n2
  refine ⟨AllA.join (AllA.imp (fun v _ hv h => h.away t (fun x hx hm => ?_)) ha) (AllA.join k.1 (AllA.imp (fun v _ hv h => h.away t (fun x hx hm => ?_)) hb)), h.2⟩
  · exact n3 x (List.mem_filterMap.2 ⟨v, hv, hx⟩) x (List.mem_append.2 (.inl hm)) rfl
  · exact n5 x hm x (List.mem_filterMap.2 ⟨v, hv, hx⟩) rfl
theorem OwnA.one {w : World} {lo hi : Nat} {v : Value} {d : Lf} (h : OwnL w lo hi v d) : OwnA w lo hi [v] [d] := ⟨⟨h, trivial⟩, by
  cases hb : blkL v with
  | none => simp [hb]
  | some b => simp [hb]⟩
theorem OwnA.set {w : World} {lo hi : Nat} {vs : List Value} {ds : List Lf} (h : OwnA w lo hi vs ds) {p : Addr} (hp : p.block < lo) (u : Value) : OwnA (w.setCell p u) lo hi vs ds :=
  h.btw ((Btw.refl p.block (p.block + 1) w).setCell (Nat.le_refl _) (Nat.lt_succ_self _) u) (.inr hp)
theorem Touch.mem {m vs : List Value} {w w' : World} (h : Touch m w w') (hs : ∀ v ∈ m, v ∈ vs) : Touch vs w w' := h.more fun k hk => by
  obtain ⟨v, hv, he⟩ := List.mem_filterMap.1 hk
  exact List.mem_filterMap.2 ⟨v, hs v hv, he⟩
theorem Touch.chain {vs : List Value} {a b c : World} (h : Touch vs a b) (k : Touch vs b c) : Touch vs a c := (h.trans k).more fun x hx => by
  rw [List.filterMap_append, List.mem_append] at hx
  rcases hx with h | h <;> exact h
theorem Box.touch {w w' : World} {b lo hi : Nat} {t : TypeId} {cs : Array Value} {vs : List Value} {ds : List Lf} (X : Box w b t cs) (h : OwnA w lo hi vs ds) (k : Touch vs w w') (hb : b < lo ∨ hi ≤ b) : Box w' b t cs := X.btw (k.btw h) hb
theorem OwnA.len {w : World} {lo hi : Nat} {vs : List Value} {ds : List Lf} (h : OwnA w lo hi vs ds) : vs.length = ds.length := by
  have aux : ∀ {vs : List Value} {ds : List Lf}, AllA (OwnL w lo hi) vs ds → vs.length = ds.length := by
    intro vs
    induction vs with
    | nil => intro ds h; cases ds with
      | nil => rfl
      | cons => exact h.elim
    | cons v vs ih => intro ds h; cases ds with
      | nil => exact h.elim
      | cons d ds => simp [ih h.2]
  exact aux h.1
theorem repI {w : World} {A : Option Addr} {c : Nat} {zs : List Int} (h : RepL w (.slice A zs.length c) (.I zs)) : IntL w A zs := by
  obtain ⟨A', c', e, h⟩ := h
  injection e with e1 e2 e3
  subst e1
  exact h
theorem repB {w : World} {A : Option Addr} {c : Nat} {zs : List Bool} (h : RepL w (.slice A zs.length c) (.B zs)) : BoolL w A zs := by
  obtain ⟨A', c', e, h⟩ := h
  injection e with e1 e2 e3
  subst e1
  exact h
theorem repS {w : World} {A : Option Addr} {c : Nat} {zs : List ByteArray} (h : RepL w (.slice A zs.length c) (.S zs)) : StrL w A zs := by
  obtain ⟨A', c', e, h⟩ := h
  injection e with e1 e2 e3
  subst e1
  exact h
theorem lenS_mem {ss : List ByteArray} {s : ByteArray} (h : s ∈ ss) : s.size ≤ lenS ss := by
  induction ss with
  | nil => cases h
  | cons x ss ih =>
    have e : lenS (x :: ss) = x.size + lenS ss := by simp [lenS]
    rcases List.mem_cons.1 h with rfl | h
    · omega
    · have := ih h; omega
theorem fit_of_sz {ss : List ByteArray} (h : szA [.S ss] ≤ 1048576) : FitS ss := fun s hs => by
  have := lenS_mem hs
  simp only [szA, Lf.sz] at h
  unfold maxLen; omega
theorem OwnI.rowOf {w : World} {lo hi : Nat} {A : Option Addr} {zs : List Int} {c b : Nat} (h : OwnI w lo hi A zs) (hb : blkL (.slice A zs.length c) = some b) : ∃ m f, w.rowIs b 3 m f := by
  rcases h with rfl | ⟨g, m, f, rfl, _, _, _, hr, _⟩
  · rw [List.length_nil, blkL_zero] at hb; cases hb
  · rcases Nat.eq_zero_or_pos zs.length with hz | hz
    · rw [hz, blkL_zero] at hb; cases hb
    · rw [blkL_some hz] at hb; injection hb with hb; subst hb; exact ⟨m, f, hr⟩
theorem OwnB.rowOf {w : World} {lo hi : Nat} {A : Option Addr} {zs : List Bool} {c b : Nat} (h : OwnB w lo hi A zs) (hb : blkL (.slice A zs.length c) = some b) : ∃ m f, w.rowIs b 4 m f := by
  rcases h with rfl | ⟨g, m, f, rfl, _, _, _, hr, _⟩
  · rw [List.length_nil, blkL_zero] at hb; cases hb
  · rcases Nat.eq_zero_or_pos zs.length with hz | hz
    · rw [hz, blkL_zero] at hb; cases hb
    · rw [blkL_some hz] at hb; injection hb with hb; subst hb; exact ⟨m, f, hr⟩
theorem OwnS.rowOf {w : World} {lo hi : Nat} {A : Option Addr} {zs : List ByteArray} {c b : Nat} (h : OwnS w lo hi A zs) (hb : blkL (.slice A zs.length c) = some b) : ∃ m f, w.rowIs b 9 m f := by
  rcases h with rfl | ⟨g, m, f, rfl, _, _, _, hr, _⟩
  · rw [List.length_nil, blkL_zero] at hb; cases hb
  · rcases Nat.eq_zero_or_pos zs.length with hz | hz
    · rw [hz, blkL_zero] at hb; cases hb
    · rw [blkL_some hz] at hb; injection hb with hb; subst hb; exact ⟨m, f, hr⟩
/-- A []int and a []bool of the call's own are of two blocks. -/
theorem ownIB {w : World} {lo hi : Nat} {A C : Option Addr} {c d : Nat} {zs : List Int} {gs : List Bool} (h : OwnI w lo hi A zs) (g : OwnB w lo hi C gs) : OwnA w lo hi [.slice A zs.length c, .slice C gs.length d] [.I zs, .B gs] :=
  OwnA.cons ⟨A, c, rfl, h⟩ (OwnA.one ⟨C, d, rfl, g⟩) (fun b hb hm => by
    obtain ⟨m, f, hr⟩ := h.rowOf hb
    obtain ⟨v, hv, he⟩ := List.mem_filterMap.1 hm
    rw [List.mem_singleton] at hv
    subst hv
    obtain ⟨m', f', hr'⟩ := g.rowOf he
    exact row_ne hr hr' (by decide) rfl)
end Go.Proofs.Ytngoijchebfolaa

/- The laws' own functions over Instr, on leaves. Written by gen_t.py. -/
namespace Go.Proofs.Ytngoijchebfolaa
open Go.RowKit

end Go.Proofs.Ytngoijchebfolaa

/- The table of operations: what its rows hold; the lengths and cycles of operations on both sides. -/
namespace Go.Proofs.Ytngoijchebfolaa
open Go.RowKit

def opWords : List ByteArray := [⟨#[110, 111, 112]⟩, ⟨#[104, 97, 108, 116]⟩, ⟨#[114, 101, 116, 105]⟩, ⟨#[101, 105]⟩, ⟨#[100, 105]⟩, ⟨#[108, 100, 105]⟩, ⟨#[108, 100]⟩, ⟨#[115, 116]⟩, ⟨#[105, 110, 99]⟩, ⟨#[100, 101, 99]⟩, ⟨#[97, 100, 100]⟩, ⟨#[115, 117, 98]⟩, ⟨#[97, 110, 100]⟩, ⟨#[111, 114]⟩, ⟨#[120, 111, 114]⟩, ⟨#[106, 112]⟩, ⟨#[106, 122]⟩, ⟨#[106, 110, 122]⟩, ⟨#[99, 97, 108, 108]⟩, ⟨#[114, 101, 116]⟩, ⟨#[115, 119, 105]⟩, ⟨#[98, 97, 110, 107]⟩, ⟨#[]⟩]
def opWord (k : Nat) : ByteArray := opWords.getD k ByteArray.empty
/-- The greatest register, argument and the fixed cycles of an operation. -/
def regT (k : Int) : Int := if 5 ≤ k ∧ k ≤ 14 then 3 else 0
def argT (k : Int) : Int := if k = 21 then 3 else if k = 5 ∨ k = 20 then 255 else if k = 6 ∨ k = 7 ∨ (15 ≤ k ∧ k ≤ 18) then 4095 else 0
def fixT (k : Int) : Int := if k = 18 ∨ k = 19 ∨ k = 2 then 8 else if k = 20 ∨ k = 22 then 12 else 0
/-- The length of an operation, its cycles. -/
def lenT (k : Int) : Int := if k = 5 ∨ k = 20 ∨ k = 21 then 2 else if k = 6 ∨ k = 7 ∨ (15 ≤ k ∧ k ≤ 18) then 3 else 1
def cycT (k : Int) : Int := if k = 18 ∨ k = 19 ∨ k = 2 then 8 else if k = 20 ∨ k = 22 then 12 else 2 * lenT k
def okIns (op reg arg : Int) : Bool := decide (0 ≤ op ∧ op ≤ 21 ∧ 0 ≤ reg ∧ reg ≤ regT op ∧ 0 ≤ arg ∧ arg ≤ argT op)
def lenA_ (a : Int) : Int := if 255 < a then 3 else if 0 < a then 2 else 1
theorem lenA_arg (k : Int) : lenA_ (argT k) = lenT k := by
  unfold lenA_ argT lenT
  repeat' split
  all_goals omega
theorem lenT_range (k : Int) : 1 ≤ lenT k ∧ lenT k ≤ 3 := by
  unfold lenT
  repeat' split
  all_goals omega
theorem fix_cyc (k : Int) : (if 0 < fixT k then fixT k else 2 * lenT k) = cycT k := by
  unfold fixT cycT
  repeat' split
  all_goals omega
theorem regT_range (k : Int) : 0 ≤ regT k ∧ regT k ≤ 3 := by
  unfold regT
  split <;> omega
theorem argT_range (k : Int) : 0 ≤ argT k ∧ argT k ≤ 4095 := by
  unfold argT
  repeat' split
  all_goals omega
theorem fixT_range (k : Int) : 0 ≤ fixT k ∧ fixT k ≤ 12 := by
  unfold fixT
  repeat' split
  all_goals omega

def OpsT (w : World) : Prop := ∀ k : Nat, k < 23 → w.cell? ⟨0, k * 4, none⟩ = some (.string (opWord k)) ∧ w.cell? ⟨0, k * 4 + 1, none⟩ = some (.int .i64 (regT k)) ∧ w.cell? ⟨0, k * 4 + 2, none⟩ = some (.int .i64 (argT k)) ∧ w.cell? ⟨0, k * 4 + 3, none⟩ = some (.int .i64 (fixT k))
theorem OpsT.lt {w : World} (h : OpsT w) : 0 < w.heap.size := cell_lt (h 0 (by omega)).1
theorem OpsT.below {w w' : World} (h : OpsT w) (hb : Below w.heap.size w w') : OpsT w' := fun k hk => by
  obtain ⟨h1, h2, h3, h4⟩ := h k hk
  exact ⟨(hb.cell (cell_lt h1)).trans h1, (hb.cell (cell_lt h2)).trans h2, (hb.cell (cell_lt h3)).trans h3, (hb.cell (cell_lt h4)).trans h4⟩

section
variable (s : ByteArray) (r a c : Int) (w : World)
end

end Go.Proofs.Ytngoijchebfolaa

/- A contract of a callee that leaves the world alone, inside a region that only reads. -/
namespace Go.Proofs.Ytngoijchebfolaa
open Go.RowKit
theorem quietSame {P : Program} {f : FuncId} {args : Array Value} {w : World} {n : Nat} {v : Value}
    (h : Calls P f args (w.drewN n) fun e w' => e = .returned v ∧ w.drewN n = w') : Calls P f args (w.drewN n) fun e w' => e = .returned v ∧ ∃ m, w' = w.drewN m :=
  h.mono fun _ _ ⟨he, hw⟩ => ⟨he, n, hw.symm⟩
end Go.Proofs.Ytngoijchebfolaa

/- Valid instructions, lengths and cycles: both sides. -/
namespace Go.Proofs.Ytngoijchebfolaa
open Go.RowKit

def rngB (n lo hi : Int) : Bool := decide (lo ≤ n ∧ n ≤ hi)
def bitI (b : Bool) : Int := if b then 1 else 0
theorem rngB_t {n lo hi : Int} (h : lo ≤ n ∧ n ≤ hi) : rngB n lo hi = true := by simp [rngB, h]
theorem rngB_f {n lo hi : Int} (h : ¬ (lo ≤ n ∧ n ≤ hi)) : rngB n lo hi = false := by simp only [rngB, decide_eq_false_iff_not]; exact h
set_option maxRecDepth 100000 in
theorem l01InA (n lo hi : Int) (w : World) : Calls Try.prog 51 #[.int .i64 n, .int .i64 lo, .int .i64 hi] w fun e w' => e = .returned (.bool (rngB n lo hi)) ∧ w = w' := by
  go_enter Try.func51, Try.ntmps51
  go_wp2
  all_goals go_ret
  all_goals (refine ⟨ret_bool ?_, rfl⟩)
  all_goals (unfold rngB; rw [Bool.eq_iff_iff]; simp; try omega)
set_option maxRecDepth 100000 in
theorem isUpToA (n l : Int) (w : World) : Calls Try.prog 83 #[.int .i64 n, .int .i64 l] w fun e w' => e = .returned (.bool (rngB n 0 l)) ∧ w = w' := by
  go_enter Try.func83, Try.ntmps83
  go_wp2
  all_goals go_ret
  all_goals (refine ⟨ret_bool ?_, rfl⟩)
  all_goals (unfold rngB; rw [Bool.eq_iff_iff]; simp; try omega)
set_option maxRecDepth 100000 in
theorem isByteA (n : Int) (w : World) : Calls Try.prog 82 #[.int .i64 n] w fun e w' => e = .returned (.bool (rngB n 0 255)) ∧ w = w' := by
  go_enter Try.func82, Try.ntmps82
  go_wp2
  all_goals go_ret
  all_goals (refine ⟨ret_bool ?_, rfl⟩)
  all_goals (unfold rngB; rw [Bool.eq_iff_iff]; simp; try omega)
set_option maxRecDepth 100000 in
theorem l01BitA (b : Bool) (w : World) : Calls Try.prog 119 #[.bool b] w fun e w' => e = .returned (.int .i64 (bitI b)) ∧ w = w' := by
  cases b
  all_goals
    go_enter Try.func119, Try.ntmps119
    go_wp2
    go_ret
    exact ⟨rfl, rfl⟩
theorem okIns_op (op reg arg : Int) (h : ¬ (0 ≤ op ∧ op ≤ 21)) : okIns op reg arg = false := by unfold okIns; simp only [decide_eq_false_iff_not]; omega
theorem okIns_reg (op reg arg : Int) (h : ¬ (0 ≤ reg ∧ reg ≤ regT op)) : okIns op reg arg = false := by unfold okIns; simp only [decide_eq_false_iff_not]; omega
theorem okIns_arg (op reg arg : Int) (h0 : 0 ≤ op ∧ op ≤ 21) (h : 0 ≤ reg ∧ reg ≤ regT op) : okIns op reg arg = rngB arg 0 (argT op) := by
  unfold okIns rngB; rw [Bool.eq_iff_iff]; simp only [decide_eq_true_eq]; omega
theorem arg_len (op : Int) (h : ¬ op = 21) : argT op = (if lenT op = 1 then 0 else if lenT op = 2 then 255 else 4095) := by
  unfold argT lenT
  rw [if_neg h]
  by_cases h1 : op = 5 ∨ op = 20
  · rw [if_pos h1, if_pos (show op = 5 ∨ op = 20 ∨ op = 21 from by omega)]; rfl
  · rw [if_neg h1, if_neg (show ¬ (op = 5 ∨ op = 20 ∨ op = 21) from by omega)]
    split <;> rfl
theorem in_zero (n : Int) : rngB n 0 0 = (n == 0) := by unfold rngB; rw [Bool.eq_iff_iff]; simp; omega
section
variable (op reg arg : Int) (w : World)
end
end Go.Proofs.Ytngoijchebfolaa

/- LengthOf, CyclesOf on both sides. -/
namespace Go.Proofs.Ytngoijchebfolaa
open Go.RowKit

def lenF (n : Int) : Int × Int := if rngB n 0 22 then (lenT n, 0) else (0, 4)
def cycF (n : Int) : Int × Int := if rngB n 0 22 then (cycT n, 0) else (0, 4)
theorem tup2 {a b c d : Int} (h : (a, b) = (c, d)) : Ending.returned (.tuple #[.int .i64 a, .int .i64 b]) = .returned (.tuple #[.int .i64 c, .int .i64 d]) := by
  injection h with h1 h2; rw [h1, h2]
section
variable (n : Int) (w : World)
end
end Go.Proofs.Ytngoijchebfolaa

/- Decode on both sides. -/
namespace Go.Proofs.Ytngoijchebfolaa
open Go.RowKit

def decArg (a b c : Int) : Int := if lenT (a / 8) = 2 then b else if lenT (a / 8) = 3 then b + 256 * c else 0
def decV (a b c : Int) : Int × Int × Int := if okIns (a / 8) (a % 8) (decArg a b c) then (a / 8, a % 8, decArg a b c) else (22, 0, 0)
def byT (a b c : Int) : Bool := rngB a 0 255 && (rngB b 0 255 && rngB c 0 255)
def dcdF (a b c : Int) : (Int × Int × Int) × Int := if byT a b c then (decV a b c, 0) else ((0, 0, 0), 4)
theorem byT_t {a b c : Int} (h : (0 ≤ a ∧ a ≤ 255) ∧ (0 ≤ b ∧ b ≤ 255) ∧ (0 ≤ c ∧ c ≤ 255)) : byT a b c = true := by unfold byT; rw [rngB_t h.1, rngB_t h.2.1, rngB_t h.2.2]; rfl
theorem byT_f {a b c : Int} (h : ¬ ((0 ≤ a ∧ a ≤ 255) ∧ (0 ≤ b ∧ b ≤ 255) ∧ (0 ≤ c ∧ c ≤ 255))) : byT a b c = false := by
  unfold byT
  by_cases h1 : 0 ≤ a ∧ a ≤ 255
  · by_cases h2 : 0 ≤ b ∧ b ≤ 255
    · rw [rngB_t h1, rngB_t h2, rngB_f (fun h3 => h ⟨h1, h2, h3⟩)]; rfl
    · rw [rngB_t h1, rngB_f h2]; rfl
  · rw [rngB_f h1]; rfl
theorem bcells {W w1 : World} (hb : Below W.heap.size W w1) : (∀ b o, b < W.heap.size → w1.cell? ⟨b, o, none⟩ = W.cell? ⟨b, o, none⟩) ∧ (∀ b o, b < W.heap.size → w1.frozen? ⟨b, o, none⟩ = W.frozen? ⟨b, o, none⟩) :=
  ⟨fun b o h => hb.cell (p := ⟨b, o, none⟩) h, fun b o h => hb.frozen (p := ⟨b, o, none⟩) h⟩

def byN (n : Int) : Bool := rngB n 0 255
set_option maxRecDepth 100000 in
set_option maxHeartbeats 1000000 in
theorem l05BytesA (A : Option Addr) (n c : Nat) (zs : List Int) (w : World) (hl : zs.length = n) (hn : n ≤ maxLen) (h : IntL w A zs) :
    Calls Try.prog 91 #[.slice A n c] w fun e w' => e = .returned (.bool (zs.all byN)) ∧ w = w' := by
  unfold maxLen at hn
  have HL := Lib.hid hl
  have H := Lib.hid h
  clear hl h
  go_enter Try.func91, Try.ntmps91
  go_wp2
  go_loop [3] (fun i => ∃ k : Nat, k ≤ n ∧ i = .int .i64 k ∧ Hid (zs.all byN = (zs.drop k).all byN)) (fun i => n - (intOf i).toNat)
  case atStart => exact ⟨0, Nat.zero_le _, rfl, Lib.hid rfl⟩
  case round =>
    obtain ⟨k, hk, rfl, HT⟩ := hrel
    by_cases hlt : k < n
    · obtain ⟨b, off, rfl, hc⟩ := H.out k (by rw [HL.out]; exact hlt)
      have HS := Lib.hid (all_step byN zs 0 k (by rw [HL.out]; exact hlt))
      generalize zs.getD k 0 = x at hc HS
      have hi : (k : Int) < (n : Int) := by omega
      by_cases hE : rngB x 0 255 = true
      · go_wp2_with (first | (go_at_call 51; refine (l01InA _ _ _ _).mono ?_; rintro e w' ⟨rfl, rfl⟩; rw [hE]))
        go_round
        case rel => exact ⟨k + 1, by omega, by go_num, Lib.hid (by rw [HT.out, HS.out, show byN x = true from hE]; rfl)⟩
        case measure => simp [intOf]; omega
      · have hE' : rngB x 0 255 = false := by simpa using hE
        clear hE
        go_wp2_with (first | (go_at_call 51; refine (l01InA _ _ _ _).mono ?_; rintro e w' ⟨rfl, rfl⟩; rw [hE']))
        go_ret
        exact ⟨ret_bool (by rw [HT.out, HS.out, show byN x = false from hE']; rfl), rfl⟩
    · have HT2 : Hid (zs.all byN = true) := Lib.hid (by rw [HT.out]; exact all_end _ _ _ (by rw [HL.out]; omega))
      go_wp2
      go_ret
      exact ⟨ret_bool HT2.out.symm, rfl⟩

section
variable (a b c : Int) (w : World)
end
end Go.Proofs.Ytngoijchebfolaa

/- A processor and a memory as plain data: pushing, pulling, calling, returning, the flags, what an instruction does. -/
namespace Go.Proofs.Ytngoijchebfolaa
open Go.RowKit

structure MD where
  r : List Int
  i : List Int
  z : List Int
  g : List Bool
  s : Int
structure CD where
  pc : Int
  sp : Int
  bank : Int
  level : Int
  zero : Bool
  carry : Bool
  on : Bool
  halt : Bool
  regs : List Int

def MD.ok (m : MD) : Bool := okMem m.r m.i m.z m.g m.s
def CD.ok (d : CD) : Bool := rngB d.pc 0 4095 && (rngB d.sp 0 255 && (rngB d.bank 0 3 && (rngB d.level 0 7 && (decide (d.regs.length = 16) && d.regs.all byB))))
def MD.get (m : MD) (a : Int) : Int := getV m.r m.i m.z m.g readV m.s a
def MD.put (m : MD) (a v : Int) : MD := ⟨putR m.r a v, putI m.i a v, putZ m.z m.g m.s a v, putG m.g m.s a, putS m.s a v⟩
def CD.reg (d : CD) (k : Int) : Int := d.regs.getD (4 * d.bank + k).toNat 0
def CD.set (d : CD) (k v : Int) : CD := { d with regs := d.regs.set (4 * d.bank + k).toNat v }
def CD.flags (d : CD) : Int := d.level + 8 * d.bank + 32 * bitI d.zero + 64 * bitI d.carry + 128 * bitI d.on
def CD.toFlags (d : CD) (v : Int) : CD := { d with level := v % 8, bank := v / 8 % 4, zero := decide (v / 32 % 2 = 1), carry := decide (v / 64 % 2 = 1), on := decide (v / 128 % 2 = 1) }
def CD.down (d : CD) : CD := { d with sp := (d.sp + 255) % 256 }
def CD.up (d : CD) : CD := { d with sp := (d.sp + 1) % 256 }
def CD.at (d : CD) (pc : Int) : CD := { d with pc := pc }
/-- Calling: the higher byte, then the lower one. -/
def callD (d : CD) (pc : Int) : CD := d.down.down.at pc
def callM (d : CD) (m : MD) : MD := (m.put d.sp (d.pc / 256)).put ((d.sp + 255) % 256) (d.pc % 256)
/-- Returning. -/
def backD (d : CD) (m : MD) : CD := d.up.up.at ((m.get ((d.sp + 1) % 256) + 256 * m.get (((d.sp + 1) % 256 + 1) % 256)) % 4096)
def retiD (d : CD) (m : MD) : CD := (backD d.up m).toFlags (m.get ((d.sp + 1) % 256))
/-- An interrupt. -/
def enterD (d : CD) (line level : Int) : CD := { (callD { d with halt := false } (704 + 4 * line)).down with level := level }
def enterM (d : CD) (m : MD) : MD := (callM d m).put (((d.sp + 255) % 256 + 255) % 256) d.flags
/-- Register 0, or that of inc and dec, and the flags. -/
def CD.res (d : CD) (k v : Int) : CD := { d.set k (v % 256) with zero := decide (v % 256 = 0) }
def andI (a b : Int) : Int := ((a.toNat &&& b.toNat : Nat) : Int)
def orI (a b : Int) : Int := ((a.toNat ||| b.toNat : Nat) : Int)
def xorI (a b : Int) : Int := ((a.toNat ^^^ b.toNat : Nat) : Int)
def aluV (op a b : Int) : Int := if op = 10 then a + b else if op = 11 then a - b else if op = 12 then andI a b else if op = 13 then orI a b else xorI a b
def CD.comb (d : CD) (v : Int) : CD := { d.res 0 v with carry := !byB v }
/-- What an instruction does to the processor, to the memory, and its swi. -/
def execD (d : CD) (m : MD) (op reg arg : Int) : CD :=
  if op = 1 then { d with halt := true } else if op = 2 then retiD d m else if op = 3 then { d with on := true } else if op = 4 then { d with on := false }
  else if op = 5 then d.set reg arg else if op = 6 then d.res reg (m.get arg) else if op = 8 then d.res reg (d.reg reg + 1) else if op = 9 then d.res reg (d.reg reg - 1)
  else if 10 ≤ op ∧ op ≤ 14 then d.comb (aluV op (d.reg 0) (d.reg reg)) else if op = 15 then d.at arg else if op = 16 then (if d.zero then d.at arg else d) else if op = 17 then (if d.zero then d else d.at arg)
  else if op = 18 then callD d arg else if op = 19 then backD d m else if op = 21 then { d with bank := arg } else if op = 22 then callD d 752 else d
def execM (d : CD) (m : MD) (op reg arg : Int) : MD := if op = 7 then m.put arg (d.reg reg) else if op = 18 ∨ op = 22 then callM d m else m
def execS (op arg : Int) : Int := if op = 20 then arg else -1
def fetchF (d : CD) (m : MD) : Int × Int × Int := decV (m.get d.pc) (m.get ((d.pc + 1) % 4096)) (m.get ((d.pc + 2) % 4096))
def nextD (d : CD) (m : MD) : CD := d.at ((d.pc + lenT (fetchF d m).1) % 4096)
def stepD (d : CD) (m : MD) : CD := if d.halt then d else execD (nextD d m) m (fetchF d m).1 (fetchF d m).2.1 (fetchF d m).2.2
def stepM (d : CD) (m : MD) : MD := if d.halt then m else execM (nextD d m) m (fetchF d m).1 (fetchF d m).2.1 (fetchF d m).2.2
def stepN (d : CD) (m : MD) : Int := if d.halt then 4 else cycT (fetchF d m).1
def stepS (d : CD) (m : MD) : Int := if d.halt then -1 else execS (fetchF d m).1 (fetchF d m).2.2

/-- What is asked of the data. -/
structure CD.Ok (d : CD) : Prop where
  pc : 0 ≤ d.pc ∧ d.pc ≤ 4095
  sp : 0 ≤ d.sp ∧ d.sp ≤ 255
  bank : 0 ≤ d.bank ∧ d.bank ≤ 3
  level : 0 ≤ d.level ∧ d.level ≤ 7
  len : d.regs.length = 16
  regs : ∀ z ∈ d.regs, 0 ≤ z ∧ z ≤ 255
structure MD.Ok (m : MD) : Prop where
  r : m.r.length = 256
  i : m.i.length = 32
  z : m.z.length = 256
  g : m.g.length = 16
  s : 0 ≤ m.s ∧ m.s ≤ 8
  rb : ∀ z ∈ m.r, 0 ≤ z ∧ z ≤ 255
  ib : ∀ z ∈ m.i, 0 ≤ z ∧ z ≤ 255
  zb : ∀ z ∈ m.z, 0 ≤ z ∧ z ≤ 255
theorem byB_iff {v : Int} : byB v = true ↔ 0 ≤ v ∧ v ≤ 255 := by unfold byB; simp
theorem CD.ok_iff {d : CD} : d.ok = true ↔ d.Ok := by
  unfold CD.ok
  constructor
  · intro h
    simp only [Bool.and_eq_true, rngB, decide_eq_true_eq, List.all_eq_true] at h
    exact ⟨h.1, h.2.1, h.2.2.1, h.2.2.2.1, h.2.2.2.2.1, fun z hz => byB_iff.1 (h.2.2.2.2.2 z hz)⟩
  · intro h
    simp only [Bool.and_eq_true, rngB, decide_eq_true_eq, List.all_eq_true]
    exact ⟨h.pc, h.sp, h.bank, h.level, h.len, fun z hz => byB_iff.2 (h.regs z hz)⟩
theorem MD.ok_iff {m : MD} : m.ok = true ↔ m.Ok := by
  unfold MD.ok
  constructor
  · intro h
    obtain ⟨h1, h2, h3, h4, h5⟩ := okMem_len h
    obtain ⟨h6, h7, h8, h9⟩ := okFlash_len h5
    exact ⟨h1, h2, h6, h7, h8, all_bytes h3, all_bytes h4, h9⟩
  · intro h
    exact okMem_mk h.r h.i (List.all_eq_true.2 fun z hz => byB_iff.2 (h.rb z hz)) (List.all_eq_true.2 fun z hz => byB_iff.2 (h.ib z hz)) (okFlash_mk h.z h.g h.s h.zb)

theorem getD_byte {l : List Int} {n : Nat} (h : ∀ z ∈ l, 0 ≤ z ∧ z ≤ 255) (k : Nat) (hn : n = l.length) (hk : k < n) : 0 ≤ l.getD k 0 ∧ l.getD k 0 ≤ 255 := by
  rw [List.getD_eq_getElem?_getD, List.getElem?_eq_getElem (by omega)]
  exact h _ (List.getElem_mem _)
theorem set_byte {l : List Int} (h : ∀ z ∈ l, 0 ≤ z ∧ z ≤ 255) (k : Nat) {v : Int} (hv : 0 ≤ v ∧ v ≤ 255) : ∀ z ∈ l.set k v, 0 ≤ z ∧ z ≤ 255 := fun z hz => by
  rcases List.mem_or_eq_of_mem_set hz with h1 | rfl
  · exact h z h1
  · exact hv
theorem readV_range {zs : List Int} {gs : List Bool} {st : Int} {n : Nat} (hz : ∀ z ∈ zs, 0 ≤ z ∧ z ≤ 255) (hl : zs.length = 256) (hn : n < 256) : 0 ≤ readV zs gs st n ∧ readV zs gs st n ≤ 255 := by
  unfold readV
  split
  · repeat' split
    all_goals omega
  · exact getD_byte hz n hl.symm hn
theorem MD.Ok.get {m : MD} (h : m.Ok) (a : Int) (h0 : 0 ≤ a) (h1 : a ≤ 4095) : 0 ≤ m.get a ∧ m.get a ≤ 255 := by
  obtain ⟨k, rfl⟩ : ∃ k : Nat, a = k := ⟨a.toNat, by omega⟩
  unfold MD.get getV
  rcases reg_ways k (by omega) with ⟨h2, e1, e2⟩ | ⟨h2, h3, e1, e2⟩ | ⟨h2, h3, e1, e2⟩ | ⟨h2, h3, e1, e2⟩
  · rw [e1, e2, if_pos rfl]; exact getD_byte h.rb _ h.r.symm (by omega)
  · rw [e1, e2, if_neg (by omega), if_pos rfl]; exact getD_byte h.ib _ h.i.symm (by omega)
  · rw [e1, e2, if_neg (by omega), if_neg (by omega), if_pos rfl]; exact readV_range h.zb h.z (by omega)
  · rw [e1, if_neg (by omega), if_neg (by omega), if_neg (by omega)]; omega
theorem MD.Ok.put {m : MD} (h : m.Ok) {a v : Int} (_h0 : 0 ≤ a) (_h1 : a ≤ 4095) (hv : 0 ≤ v ∧ v ≤ 255) : (m.put a v).Ok := by
  refine ⟨(putR_len _ _ _).trans h.r, (putI_len _ _ _).trans h.i, (putZ_len _ _ _ _ _).trans h.z, (putG_len _ _ _).trans h.g, ?_, ?_, ?_, ?_⟩
  · show 0 ≤ putS m.s a v ∧ putS m.s a v ≤ 8
    unfold putS; split
    · exact nextS_in _ _ _
    · exact h.s
  · show ∀ z ∈ putR m.r a v, 0 ≤ z ∧ z ≤ 255
    unfold putR; split
    · exact set_byte h.rb _ hv
    · exact h.rb
  · show ∀ z ∈ putI m.i a v, 0 ≤ z ∧ z ≤ 255
    unfold putI; split
    · exact set_byte h.ib _ hv
    · exact h.ib
  · show ∀ z ∈ putZ m.z m.g m.s a v, 0 ≤ z ∧ z ≤ 255
    unfold putZ; split
    · exact cycZ_range h.zb (by omega)
    · exact h.zb
theorem CD.Ok.down {d : CD} (h : d.Ok) : d.down.Ok := ⟨h.pc, by show 0 ≤ (d.sp + 255) % 256 ∧ (d.sp + 255) % 256 ≤ 255; omega, h.bank, h.level, h.len, h.regs⟩
theorem CD.Ok.up {d : CD} (h : d.Ok) : d.up.Ok := ⟨h.pc, by show 0 ≤ (d.sp + 1) % 256 ∧ (d.sp + 1) % 256 ≤ 255; omega, h.bank, h.level, h.len, h.regs⟩
theorem CD.Ok.at {d : CD} (h : d.Ok) {a : Int} (h0 : 0 ≤ a) (h1 : a ≤ 4095) : (d.at a).Ok := ⟨⟨h0, h1⟩, h.sp, h.bank, h.level, h.len, h.regs⟩
theorem CD.Ok.reg {d : CD} (h : d.Ok) {k : Int} (h0 : 0 ≤ k) (h1 : k ≤ 3) : 0 ≤ d.reg k ∧ d.reg k ≤ 255 := by
  have := h.bank
  exact getD_byte h.regs _ h.len.symm (by omega)
theorem CD.Ok.set {d : CD} (h : d.Ok) {k v : Int} (hv : 0 ≤ v ∧ v ≤ 255) : (d.set k v).Ok := ⟨h.pc, h.sp, h.bank, h.level, by simpa [CD.set] using h.len, set_byte h.regs _ hv⟩
theorem CD.Ok.flags {d : CD} (h : d.Ok) : 0 ≤ d.flags ∧ d.flags ≤ 255 := by
  have := h.bank
  have := h.level
  have hb : ∀ b, 0 ≤ bitI b ∧ bitI b ≤ 1 := fun b => by cases b <;> decide
  have := hb d.zero
  have := hb d.carry
  have := hb d.on
  unfold CD.flags
  omega
theorem CD.Ok.toFlags {d : CD} (h : d.Ok) (v : Int) : (d.toFlags v).Ok := ⟨h.pc, h.sp, by show 0 ≤ v / 8 % 4 ∧ v / 8 % 4 ≤ 3; omega, by show 0 ≤ v % 8 ∧ v % 8 ≤ 7; omega, h.len, h.regs⟩
theorem CD.Ok.call {d : CD} (h : d.Ok) {a : Int} (h0 : 0 ≤ a) (h1 : a ≤ 4095) : (callD d a).Ok := h.down.down.at h0 h1
theorem MD.Ok.call {d : CD} {m : MD} (h : d.Ok) (k : m.Ok) : (callM d m).Ok := by
  have := h.pc
  have := h.sp
  exact (k.put (by omega) (by omega) (by omega)).put (by omega) (by omega) (by omega)
theorem CD.Ok.back {d : CD} (h : d.Ok) (m : MD) : (backD d m).Ok := h.up.up.at (by omega) (by omega)
theorem CD.Ok.reti {d : CD} (h : d.Ok) (m : MD) : (retiD d m).Ok := (h.up.back m).toFlags _
theorem CD.Ok.res {d : CD} (h : d.Ok) (k v : Int) : (d.res k v).Ok := by
  have := h.set (k := k) (v := v % 256) (by omega)
  exact ⟨this.pc, this.sp, this.bank, this.level, this.len, this.regs⟩
theorem CD.Ok.comb {d : CD} (h : d.Ok) (v : Int) : (d.comb v).Ok := by
  have := h.res 0 v
  exact ⟨this.pc, this.sp, this.bank, this.level, this.len, this.regs⟩
theorem CD.Ok.enter {d : CD} (h : d.Ok) {line level : Int} (h0 : 0 ≤ line ∧ line ≤ 7) (h1 : 0 ≤ level ∧ level ≤ 7) : (enterD d line level).Ok := by
  have h2 : ({ d with halt := false } : CD).Ok := ⟨h.pc, h.sp, h.bank, h.level, h.len, h.regs⟩
  have := (h2.call (a := 704 + 4 * line) (by omega) (by omega)).down
  exact ⟨this.pc, this.sp, this.bank, h1, this.len, this.regs⟩
theorem MD.Ok.enter {d : CD} {m : MD} (h : d.Ok) (k : m.Ok) : (enterM d m).Ok := by
  have := h.sp
  exact (MD.Ok.call h k).put (by omega) (by omega) h.flags
/-- What is decoded. -/
theorem decV_ok (a b c : Int) : ((decV a b c).1 = 22 ∧ (decV a b c).2.1 = 0 ∧ (decV a b c).2.2 = 0) ∨ okIns (decV a b c).1 (decV a b c).2.1 (decV a b c).2.2 = true := by
  unfold decV
  split
  · rename_i h; right; exact h
  · left; exact ⟨rfl, rfl, rfl⟩
theorem okIns_says {op reg arg : Int} (h : okIns op reg arg = true) : 0 ≤ op ∧ op ≤ 21 ∧ 0 ≤ reg ∧ reg ≤ regT op ∧ 0 ≤ arg ∧ arg ≤ argT op := by simpa [okIns] using h
structure InsOk (op reg arg : Int) : Prop where
  ho : 0 ≤ op ∧ op ≤ 22
  hr : 0 ≤ reg ∧ reg ≤ 3
  ha : 0 ≤ arg ∧ arg ≤ 4095
  hy : op = 5 ∨ op = 20 → arg ≤ 255
  hb : op = 21 → arg ≤ 3
theorem insOk_of {op reg arg : Int} (h : (op = 22 ∧ reg = 0 ∧ arg = 0) ∨ okIns op reg arg = true) : InsOk op reg arg := by
  rcases h with ⟨rfl, rfl, rfl⟩ | h
  · exact ⟨by omega, by omega, by omega, by omega, by omega⟩
  · obtain ⟨h1, h2, h3, h4, h5, h6⟩ := okIns_says h
    have := regT_range op
    have := argT_range op
    refine ⟨by omega, by omega, by omega, fun q => ?_, fun q => ?_⟩
    · unfold argT at h6
      rw [if_neg (by omega), if_pos q] at h6
      exact h6
    · unfold argT at h6
      rw [if_pos q] at h6
      exact h6
theorem fetch_ok (d : CD) (m : MD) : InsOk (fetchF d m).1 (fetchF d m).2.1 (fetchF d m).2.2 := insOk_of (decV_ok _ _ _)
section
variable (d : CD) (m : MD) (reg arg : Int)
theorem execD_0 : execD d m 0 reg arg = d := rfl
theorem execD_1 : execD d m 1 reg arg = { d with halt := true } := rfl
theorem execD_2 : execD d m 2 reg arg = retiD d m := rfl
theorem execD_3 : execD d m 3 reg arg = { d with on := true } := rfl
theorem execD_4 : execD d m 4 reg arg = { d with on := false } := rfl
theorem execD_5 : execD d m 5 reg arg = d.set reg arg := rfl
theorem execD_6 : execD d m 6 reg arg = d.res reg (m.get arg) := rfl
theorem execD_7 : execD d m 7 reg arg = d := rfl
theorem execD_8 : execD d m 8 reg arg = d.res reg (d.reg reg + 1) := rfl
theorem execD_9 : execD d m 9 reg arg = d.res reg (d.reg reg - 1) := rfl
theorem execD_10 : execD d m 10 reg arg = d.comb (d.reg 0 + d.reg reg) := rfl
theorem execD_11 : execD d m 11 reg arg = d.comb (d.reg 0 - d.reg reg) := rfl
theorem execD_12 : execD d m 12 reg arg = d.comb (andI (d.reg 0) (d.reg reg)) := rfl
theorem execD_13 : execD d m 13 reg arg = d.comb (orI (d.reg 0) (d.reg reg)) := rfl
theorem execD_14 : execD d m 14 reg arg = d.comb (xorI (d.reg 0) (d.reg reg)) := rfl
theorem execD_15 : execD d m 15 reg arg = d.at arg := rfl
theorem execD_16 : execD d m 16 reg arg = if d.zero then d.at arg else d := rfl
theorem execD_17 : execD d m 17 reg arg = if d.zero then d else d.at arg := rfl
theorem execD_18 : execD d m 18 reg arg = callD d arg := rfl
theorem execD_19 : execD d m 19 reg arg = backD d m := rfl
theorem execD_20 : execD d m 20 reg arg = d := rfl
theorem execD_21 : execD d m 21 reg arg = { d with bank := arg } := rfl
theorem execD_22 : execD d m 22 reg arg = callD d 752 := rfl
theorem execM_0 : execM d m 0 reg arg = m := rfl
theorem execM_1 : execM d m 1 reg arg = m := rfl
theorem execM_2 : execM d m 2 reg arg = m := rfl
theorem execM_3 : execM d m 3 reg arg = m := rfl
theorem execM_4 : execM d m 4 reg arg = m := rfl
theorem execM_5 : execM d m 5 reg arg = m := rfl
theorem execM_6 : execM d m 6 reg arg = m := rfl
theorem execM_7 : execM d m 7 reg arg = m.put arg (d.reg reg) := rfl
theorem execM_8 : execM d m 8 reg arg = m := rfl
theorem execM_9 : execM d m 9 reg arg = m := rfl
theorem execM_10 : execM d m 10 reg arg = m := rfl
theorem execM_11 : execM d m 11 reg arg = m := rfl
theorem execM_12 : execM d m 12 reg arg = m := rfl
theorem execM_13 : execM d m 13 reg arg = m := rfl
theorem execM_14 : execM d m 14 reg arg = m := rfl
theorem execM_15 : execM d m 15 reg arg = m := rfl
theorem execM_16 : execM d m 16 reg arg = m := rfl
theorem execM_17 : execM d m 17 reg arg = m := rfl
theorem execM_18 : execM d m 18 reg arg = callM d m := rfl
theorem execM_19 : execM d m 19 reg arg = m := rfl
theorem execM_20 : execM d m 20 reg arg = m := rfl
theorem execM_21 : execM d m 21 reg arg = m := rfl
theorem execM_22 : execM d m 22 reg arg = callM d m := rfl
end
theorem ops23 {op : Int} (h : 0 ≤ op ∧ op ≤ 22) : op = 0 ∨ op = 1 ∨ op = 2 ∨ op = 3 ∨ op = 4 ∨ op = 5 ∨ op = 6 ∨ op = 7 ∨ op = 8 ∨ op = 9 ∨ op = 10 ∨ op = 11 ∨ op = 12 ∨ op = 13 ∨ op = 14 ∨ op = 15 ∨ op = 16 ∨ op = 17 ∨ op = 18 ∨ op = 19 ∨ op = 20 ∨ op = 21 ∨ op = 22 := by omega
theorem CD.Ok.exec {d : CD} (h : d.Ok) {m : MD} {op reg arg : Int} (i : InsOk op reg arg) : (execD d m op reg arg).Ok := by
  have ia := i.ha
  have iy := i.hy
  have ib := i.hb
  have e1 : ∀ x, ({ d with halt := x } : CD).Ok := fun x => ⟨h.pc, h.sp, h.bank, h.level, h.len, h.regs⟩
  have e2 : ∀ x, ({ d with on := x } : CD).Ok := fun x => ⟨h.pc, h.sp, h.bank, h.level, h.len, h.regs⟩
  rcases ops23 i.ho with rfl | rfl | rfl | rfl | rfl | rfl | rfl | rfl | rfl | rfl | rfl | rfl | rfl | rfl | rfl | rfl | rfl | rfl | rfl | rfl | rfl | rfl | rfl
  · exact h
  · exact e1 _
  · exact h.reti m
  · exact e2 _
  · exact e2 _
  · exact h.set ⟨ia.1, iy (.inl rfl)⟩
  · exact h.res _ _
  · exact h
  · exact h.res _ _
  · exact h.res _ _
  · exact h.comb _
  · exact h.comb _
  · exact h.comb _
  · exact h.comb _
  · exact h.comb _
  · exact h.at ia.1 ia.2
  · rw [execD_16]; split
    · exact h.at ia.1 ia.2
    · exact h
  · rw [execD_17]; split
    · exact h
    · exact h.at ia.1 ia.2
  · exact h.call ia.1 ia.2
  · exact h.back m
  · exact h
  · exact ⟨h.pc, h.sp, ⟨ia.1, ib rfl⟩, h.level, h.len, h.regs⟩
  · exact h.call (by omega) (by omega)
theorem MD.Ok.exec {d : CD} (h : d.Ok) {m : MD} (k : m.Ok) {op reg arg : Int} (i : InsOk op reg arg) : (execM d m op reg arg).Ok := by
  rcases ops23 i.ho with rfl | rfl | rfl | rfl | rfl | rfl | rfl | rfl | rfl | rfl | rfl | rfl | rfl | rfl | rfl | rfl | rfl | rfl | rfl | rfl | rfl | rfl | rfl
  · exact k
  · exact k
  · exact k
  · exact k
  · exact k
  · exact k
  · exact k
  · exact k.put i.ha.1 i.ha.2 (h.reg i.hr.1 i.hr.2)
  · exact k
  · exact k
  · exact k
  · exact k
  · exact k
  · exact k
  · exact k
  · exact k
  · exact k
  · exact k
  · exact MD.Ok.call h k
  · exact k
  · exact k
  · exact k
  · exact MD.Ok.call h k
theorem CD.Ok.next {d : CD} (h : d.Ok) (m : MD) : (nextD d m).Ok := h.at (by omega) (by omega)
theorem CD.Ok.step {d : CD} (h : d.Ok) (m : MD) : (stepD d m).Ok := by
  unfold stepD
  split
  · exact h
  · exact (h.next m).exec (fetch_ok d m)
theorem MD.Ok.step {d : CD} (h : d.Ok) {m : MD} (k : m.Ok) : (stepM d m).Ok := by
  unfold stepM
  split
  · exact k
  · exact MD.Ok.exec (h.next m) k (fetch_ok d m)
end Go.Proofs.Ytngoijchebfolaa

/- The laws' own functions over Flash, on leaves. Written by gen_t.py. -/
namespace Go.Proofs.Ytngoijchebfolaa
open Go.RowKit

set_option maxRecDepth 100000 in
set_option maxHeartbeats 2000000 in
theorem szFlashA (vA0 vA1 : Option Addr) (vc0 vc1 : Nat) (d0 : List Int) (d1 : List Bool) (d2 : Int) (left : Int) (w : World) (h : RepA w [.slice vA0 d0.length vc0, .slice vA1 d1.length vc1] [Lf.I d0, Lf.B d1]) (hf : FitA [Lf.I d0, Lf.B d1]) (h0 : 0 ≤ left) (h1 : left ≤ 1048576) :
    Calls Try.prog 57 #[.agg #[.slice vA0 d0.length vc0, .slice vA1 d1.length vc1, .int .i64 d2], .int .i64 left] w (Left left (szA [Lf.I d0, Lf.B d1]) w) := by
  have H0 := Lib.hid (fun W (hb : Below w.heap.size w W) l g0 g1 => szLI (.slice vA0 d0.length vc0) d0 l W ((h.below hb).1) (hf _ (by simp)) g0 g1)
  have H1 := Lib.hid (fun W (hb : Below w.heap.size w W) l g0 g1 => szLB (.slice vA1 d1.length vc1) d1 l W ((h.below hb).2.1) (hf _ (by simp)) g0 g1)
  have HR : Hid (szA [Lf.I d0, Lf.B d1] = (Lf.sz (Lf.I d0)) + (Lf.sz (Lf.B d1))) := Lib.hid (by simp only [szA]; omega)
  generalize szA [Lf.I d0, Lf.B d1] = sa at HR ⊢
  generalize (Lf.sz (Lf.I d0)) = z0 at HR H0
  generalize (Lf.sz (Lf.B d1)) = z1 at HR H1
  have hb0 := alloc_below w (.cells #[.slice vA0 d0.length vc0, .slice vA1 d1.length vc1, .int .i64 d2] 45)
  have X := Lib.hid (Box.new w 45 #[.slice vA0 d0.length vc0, .slice vA1 d1.length vc1, .int .i64 d2])
  clear h hf
  go_enter Try.func57, Try.ntmps57
  go_wp2_with fail
  refine (H0.out _ hb0 _ (by omega) (by omega)).mono ?_
  rintro e w1 ⟨hres, hc1⟩
  have X1 := Lib.hid (X.out.step hc1)
  have hb1 := bt hb0 hc1
  clear X hb0 hc1
  rcases hres with rfl | ⟨rfl, hle0⟩
  · go_wp2
    go_ret
    exact ⟨.inl rfl, hb1⟩
  have hp0 : ¬ left - (z0 : Int) < 0 := by omega
  have f1 := X1.out.cell 1 rfl
  go_wp2_with fail
  refine (H1.out _ hb1 _ (by omega) (by omega)).mono ?_
  rintro e w2 ⟨hres, hc2⟩
  have X2 := Lib.hid (X1.out.step hc2)
  have hb2 := bt hb1 hc2
  clear X1 hb1 hc2 f1
  rcases hres with rfl | ⟨rfl, hle1⟩
  · go_wp2
    go_ret
    exact ⟨.inl rfl, hb2⟩
  have hp1 : ¬ left - (z0 : Int) - (z1 : Int) < 0 := by omega
  go_wp2
  go_ret
  exact ⟨.inr ⟨ret_int (by have := HR.out; omega), by have := HR.out; omega⟩, hb2⟩

set_option maxRecDepth 100000 in
set_option maxHeartbeats 4000000 in
theorem toFlashA (vA0 vA1 : Option Addr) (vc0 vc1 : Nat) (d0 : List Int) (d1 : List Bool) (d2 : Int) (w : World) (h : RepA w [.slice vA0 d0.length vc0, .slice vA1 d1.length vc1] [Lf.I d0, Lf.B d1]) (hn : szA [Lf.I d0, Lf.B d1] ≤ 1048576) :
    Calls Try.prog 62 #[.agg #[.slice vA0 d0.length vc0, .slice vA1 d1.length vc1, .int .i64 d2]] w (fun e w' => ∃ uA0 uA1 uc0 uc1, e = .returned (.agg #[.slice uA0 d0.length uc0, .slice uA1 d1.length uc1, .int .i64 d2]) ∧ Hid (OwnA w' w.heap.size w'.heap.size [.slice uA0 d0.length uc0, .slice uA1 d1.length uc1] [Lf.I d0, Lf.B d1]) ∧ Hid (CapA [.slice uA0 d0.length uc0, .slice uA1 d1.length uc1]) ∧ Below w.heap.size w w') := by
  obtain ⟨W0, hW0⟩ : ∃ W0, W0 = (((w.alloc (.cells #[.slice vA0 d0.length vc0, .slice vA1 d1.length vc1, .int .i64 d2] 45)).alloc (.cells #[.slice none 0 0, .slice none 0 0, .int .i64 0] 26)).alloc (.cells #[.slice none 0 0, .slice none 0 0, .int .i64 0] 26)) := ⟨_, rfl⟩
  have hs0 : W0.heap.size = w.heap.size + 1 + 1 + 1 := by rw [hW0]; simp
  have hb0 : Below w.heap.size w W0 := by rw [hW0]; exact (((Below.refl _ _).alloc (Nat.le_refl _) _).alloc (by simp) _).alloc (by simp; omega) _
  have X0 : Hid (Box W0 w.heap.size 45 #[.slice vA0 d0.length vc0, .slice vA1 d1.length vc1, .int .i64 d2]) := Lib.hid (by rw [hW0]; exact ((Box.new _ _ _).alloc _).alloc _)
  have Y0 : Hid (Box W0 (w.heap.size + 1) 26 #[.slice none 0 0, .slice none 0 0, .int .i64 0]) := Lib.hid (by rw [hW0]; simpa using (Box.new (w.alloc (.cells #[.slice vA0 d0.length vc0, .slice vA1 d1.length vc1, .int .i64 d2] 45)) 26 #[.slice none 0 0, .slice none 0 0, .int .i64 0]).alloc (.cells #[.slice none 0 0, .slice none 0 0, .int .i64 0] 26))
  have Z0 : Hid (Box W0 (w.heap.size + 1 + 1) 26 #[.slice none 0 0, .slice none 0 0, .int .i64 0]) := Lib.hid (by rw [hW0]; simpa using Box.new ((w.alloc (.cells #[.slice vA0 d0.length vc0, .slice vA1 d1.length vc1, .int .i64 d2] 45)).alloc (.cells #[.slice none 0 0, .slice none 0 0, .int .i64 0] 26)) 26 #[.slice none 0 0, .slice none 0 0, .int .i64 0])
  have O0 : Hid (OwnA W0 (w.heap.size + 3) W0.heap.size [] []) := Lib.hid (OwnA.nil _ _ _)
  have H0 := Lib.hid (fun W (hb : Below w.heap.size w W) => toLI (.slice vA0 d0.length vc0) d0 W ((h.below hb).1) (by simp only [szA, Lf.sz] at hn; omega))
  have H1 := Lib.hid (fun W (hb : Below w.heap.size w W) => toLB (.slice vA1 d1.length vc1) d1 W ((h.below hb).2.1) (by simp only [szA, Lf.sz] at hn; omega))
  have HW0 := Lib.hid hW0
  have HS0 := Lib.hid hs0
  clear h hn hW0 hs0
  go_enter Try.func62, Try.ntmps62
  go_wp2_with fail
  rw [← HW0.out]
  refine (H0.out _ hb0).mono ?_
  rintro e w1 ⟨uA0, uc0, rfl, N1, K0, hc⟩
  have hq0 : w.heap.size + 3 ≤ W0.heap.size := by have := Z0.out.lt; omega
  have X1 := Lib.hid (X0.out.step hc)
  have Y1 := Lib.hid (Y0.out.step hc)
  have Z1 := Lib.hid (Z0.out.step hc)
  have O1 : Hid (OwnA w1 (w.heap.size + 3) w1.heap.size [.slice uA0 d0.length uc0] [Lf.I d0]) := Lib.hid ((O0.out.below hc).append (OwnA.one N1.out) (.inl (Nat.le_refl _)) (Nat.le_refl _) hq0 hc.size (Nat.le_refl _))
  have hb1 := bt hb0 hc
  clear X0 Y0 Z0 O0 hb0 hc N1 hq0 HW0 HS0
  have fa1 := X1.out.cell 1 rfl
  have fz0 := Z1.out.cell 0 rfl
  have gz0 := Z1.out.frozen 0
  go_wp2_with fail
  obtain ⟨V1, hV1⟩ : ∃ V1, V1 = (w1.setCell ⟨w.heap.size + 1 + 1, 0, none⟩ (.slice uA0 d0.length uc0)) := ⟨_, rfl⟩
  have X2 : Hid (Box V1 w.heap.size 45 #[.slice vA0 d0.length vc0, .slice vA1 d1.length vc1, .int .i64 d2]) := Lib.hid (by rw [hV1]; exact (X1.out.far (p := ⟨w.heap.size + 1 + 1, 0, none⟩) (by show w.heap.size ≠ w.heap.size + 1 + 1; omega) (.slice uA0 d0.length uc0)))
  have Y2 : Hid (Box V1 (w.heap.size + 1) 26 #[.slice none 0 0, .slice none 0 0, .int .i64 0]) := Lib.hid (by rw [hV1]; exact (Y1.out.far (p := ⟨w.heap.size + 1 + 1, 0, none⟩) (by show w.heap.size + 1 ≠ w.heap.size + 1 + 1; omega) (.slice uA0 d0.length uc0)))
  have Z2 : Hid (Box V1 (w.heap.size + 1 + 1) 26 #[.slice uA0 d0.length uc0, .slice none 0 0, .int .i64 0]) := Lib.hid (by rw [hV1]; exact (Z1.out.set 0 (.slice uA0 d0.length uc0)))
  have hsz2 : V1.heap.size = w1.heap.size := by rw [hV1]; simp [World.setCell]
  have O2 : Hid (OwnA V1 (w.heap.size + 3) V1.heap.size [.slice uA0 d0.length uc0] [Lf.I d0]) := Lib.hid (by rw [hsz2, hV1]; exact (O1.out.set (p := ⟨w.heap.size + 1 + 1, 0, none⟩) (by show w.heap.size + 1 + 1 < w.heap.size + 3; omega) (.slice uA0 d0.length uc0)))
  have hb2 : Below w.heap.size w V1 := by rw [hV1]; exact (hb1.setCell (p := ⟨w.heap.size + 1 + 1, 0, none⟩) (by show w.heap.size ≤ w.heap.size + 1 + 1; omega) (.slice uA0 d0.length uc0))
  rw [← hV1]
  clear X1 Y1 Z1 O1 hb1 hV1 hsz2 fa1 fz0 gz0
  refine (H1.out _ hb2).mono ?_
  rintro e w2 ⟨uA1, uc1, rfl, N1, K1, hc⟩
  have hq0 : w.heap.size + 3 ≤ V1.heap.size := by have := Z2.out.lt; omega
  have X3 := Lib.hid (X2.out.step hc)
  have Y3 := Lib.hid (Y2.out.step hc)
  have Z3 := Lib.hid (Z2.out.step hc)
  have O3 : Hid (OwnA w2 (w.heap.size + 3) w2.heap.size [.slice uA0 d0.length uc0, .slice uA1 d1.length uc1] [Lf.I d0, Lf.B d1]) := Lib.hid ((O2.out.below hc).append (OwnA.one N1.out) (.inl (Nat.le_refl _)) (Nat.le_refl _) hq0 hc.size (Nat.le_refl _))
  have hb3 := bt hb2 hc
  clear X2 Y2 Z2 O2 hb2 hc N1 hq0
  have fa2 := X3.out.cell 2 rfl
  have fz1 := Z3.out.cell 1 rfl
  have gz1 := Z3.out.frozen 1
  have fz2 := Z3.out.cell 2 rfl
  have gz2 := Z3.out.frozen 2
  have fz0 := Z3.out.cell 0 rfl
  have fy0 := Y3.out.cell 0 rfl
  have gy0 := Y3.out.frozen 0
  have fy1 := Y3.out.cell 1 rfl
  have gy1 := Y3.out.frozen 1
  have fy2 := Y3.out.cell 2 rfl
  have gy2 := Y3.out.frozen 2
  go_wp2
  refine bodyPost_ret (v := .agg #[.slice uA0 d0.length uc0, .slice uA1 d1.length uc1, .int .i64 d2]) (by simp [results, Try.results62, go_sem, fy0, fy1, fy2]) rfl ?_
  refine ⟨uA0, uA1, uc0, uc1, rfl, Lib.hid (((((((O3.out.set (p := ⟨w.heap.size + 1 + 1, 1, none⟩) (by show w.heap.size + 1 + 1 < w.heap.size + 3; omega) _).set (p := ⟨w.heap.size + 1 + 1, 2, none⟩) (by show w.heap.size + 1 + 1 < w.heap.size + 3; omega) _).set (p := ⟨w.heap.size + 1, 0, none⟩) (by show w.heap.size + 1 < w.heap.size + 3; omega) _).set (p := ⟨w.heap.size + 1, 1, none⟩) (by show w.heap.size + 1 < w.heap.size + 3; omega) _).set (p := ⟨w.heap.size + 1, 2, none⟩) (by show w.heap.size + 1 < w.heap.size + 3; omega) _)).wide (by omega) (by simp [World.setCell])), Lib.hid (CapA.cons K0.out (CapA.cons K1.out CapA.nil)), (((((hb3.setCell (p := ⟨w.heap.size + 1 + 1, 1, none⟩) (by show w.heap.size ≤ w.heap.size + 1 + 1; omega) _).setCell (p := ⟨w.heap.size + 1 + 1, 2, none⟩) (by show w.heap.size ≤ w.heap.size + 1 + 1; omega) _).setCell (p := ⟨w.heap.size + 1, 0, none⟩) (by show w.heap.size ≤ w.heap.size + 1; omega) _).setCell (p := ⟨w.heap.size + 1, 1, none⟩) (by show w.heap.size ≤ w.heap.size + 1; omega) _).setCell (p := ⟨w.heap.size + 1, 2, none⟩) (by show w.heap.size ≤ w.heap.size + 1; omega) _)⟩

set_option maxRecDepth 100000 in
set_option maxHeartbeats 4000000 in
theorem eqFlashA (vA0 vA1 : Option Addr) (vc0 vc1 : Nat) (uA0 uA1 : Option Addr) (uc0 uc1 : Nat) (d0 : List Int) (d1 : List Bool) (d2 : Int) (w : World) (h : RepA w [.slice vA0 d0.length vc0, .slice vA1 d1.length vc1] [Lf.I d0, Lf.B d1]) (h' : RepA w [.slice uA0 d0.length uc0, .slice uA1 d1.length uc1] [Lf.I d0, Lf.B d1]) (hn : lenA [Lf.I d0, Lf.B d1] ≤ maxLen) :
    Calls Try.prog 70 #[.agg #[.slice vA0 d0.length vc0, .slice vA1 d1.length vc1, .int .i64 d2], .agg #[.slice uA0 d0.length uc0, .slice uA1 d1.length uc1, .int .i64 d2]] w fun e w' => e = .returned (.bool true) ∧ Below w.heap.size w w' := by
  have H0 := Lib.hid (fun W (hb : Below w.heap.size w W) => eqLI (.slice vA0 d0.length vc0) (.slice uA0 d0.length uc0) d0 W ((h.below hb).1) ((h'.below hb).1) (by simp only [lenA, Lf.len] at hn; omega))
  have H1 := Lib.hid (fun W (hb : Below w.heap.size w W) => eqLB (.slice vA1 d1.length vc1) (.slice uA1 d1.length uc1) d1 W ((h.below hb).2.1) ((h'.below hb).2.1) (by simp only [lenA, Lf.len] at hn; omega))
  obtain ⟨W0, hW0⟩ : ∃ W0, W0 = ((w.alloc (.cells #[.slice vA0 d0.length vc0, .slice vA1 d1.length vc1, .int .i64 d2] 26)).alloc (.cells #[.slice uA0 d0.length uc0, .slice uA1 d1.length uc1, .int .i64 d2] 26)) := ⟨_, rfl⟩
  have hb0 : Below w.heap.size w W0 := by rw [hW0]; exact ((Below.refl _ _).alloc (Nat.le_refl _) _).alloc (by simp) _
  have X0 : Hid (Box W0 w.heap.size 26 #[.slice vA0 d0.length vc0, .slice vA1 d1.length vc1, .int .i64 d2]) := Lib.hid (by rw [hW0]; exact (Box.new _ _ _).alloc _)
  have Y0 : Hid (Box W0 (w.heap.size + 1) 26 #[.slice uA0 d0.length uc0, .slice uA1 d1.length uc1, .int .i64 d2]) := Lib.hid (by rw [hW0]; simpa using Box.new (w.alloc (.cells #[.slice vA0 d0.length vc0, .slice vA1 d1.length vc1, .int .i64 d2] 26)) 26 #[.slice uA0 d0.length uc0, .slice uA1 d1.length uc1, .int .i64 d2])
  have HW0 := Lib.hid hW0
  have hq2 : (d2 != d2) = false := by simp
  clear hW0 h h' hn
  go_enter Try.func70, Try.ntmps70
  go_wp2_with fail
  rw [← HW0.out]
  refine (H0.out _ hb0).mono ?_
  rintro e w1 ⟨rfl, hc⟩
  have X1 := Lib.hid (X0.out.step hc)
  have Y1 := Lib.hid (Y0.out.step hc)
  have hb1 := bt hb0 hc
  clear X0 Y0 hb0 hc HW0
  have k1 := X1.out.cell 1 rfl
  have l1 := Y1.out.cell 1 rfl
  go_wp2_with fail
  refine (H1.out _ hb1).mono ?_
  rintro e w2 ⟨rfl, hc⟩
  have X2 := Lib.hid (X1.out.step hc)
  have Y2 := Lib.hid (Y1.out.step hc)
  have hb2 := bt hb1 hc
  clear X1 Y1 hb1 hc k1 l1
  have k2 := X2.out.cell 2 rfl
  have l2 := Y2.out.cell 2 rfl
  go_wp2
  go_ret
  exact ⟨rfl, hb2⟩

set_option maxRecDepth 100000 in
set_option maxHeartbeats 4000000 in
theorem markFlashA (vA0 vA1 : Option Addr) (vc0 vc1 : Nat) (d0 : List Int) (d1 : List Bool) (d2 : Int) (k lo hi : Nat) (w : World) (h : OwnA w lo hi [.slice vA0 d0.length vc0, .slice vA1 d1.length vc1] [Lf.I d0, Lf.B d1]) (hhi : hi ≤ w.heap.size) (hk : 1 ≤ k) (hB : BndA [Lf.I d0, Lf.B d1]) (hk2 : k + lenA [Lf.I d0, Lf.B d1] ≤ 549755813888) :
    Calls Try.prog 72 #[.agg #[.slice vA0 d0.length vc0, .slice vA1 d1.length vc1, .int .i64 d2], .int .i64 (k : Int)] w fun e w' => e = .returned (.int .i64 ((k + lenA [Lf.I d0, Lf.B d1] : Nat) : Int)) ∧ Hid (OwnA w' lo hi [.slice vA0 d0.length vc0, .slice vA1 d1.length vc1] (marksA k [Lf.I d0, Lf.B d1])) ∧ Touch [.slice vA0 d0.length vc0, .slice vA1 d1.length vc1] w w' := by
  have hb0 := alloc_below w (.cells #[.slice vA0 d0.length vc0, .slice vA1 d1.length vc1, .int .i64 d2] 26)
  have X0 := Lib.hid (Box.new w 26 #[.slice vA0 d0.length vc0, .slice vA1 d1.length vc1, .int .i64 d2])
  have O0 := Lib.hid (h.below hb0)
  have T0 := Lib.hid (Touch.of_below hb0 [.slice vA0 d0.length vc0, .slice vA1 d1.length vc1])
  have H0 := Lib.hid (fun W (o : OwnL W lo hi (.slice vA0 d0.length vc0) (Lf.I d0)) => markLI (.slice vA0 d0.length vc0) d0 (k) lo hi W o (by omega) (hB (Lf.I d0) (by simp)) (by simp only [lenA] at hk2 ⊢; omega))
  have H1 := Lib.hid (fun W (o : OwnL W lo hi (.slice vA1 d1.length vc1) (Lf.B d1)) => markLB (.slice vA1 d1.length vc1) d1 (k + (Lf.len (Lf.I d0))) lo hi W o (by omega) (hB (Lf.B d1) (by simp)) (by simp only [lenA] at hk2 ⊢; omega))
  have HH := Lib.hid hhi
  clear h hb0 hB hk2 hk hhi
  go_enter Try.func72, Try.ntmps72
  have G0 := OwnA.seg (a := []) (m := [.slice vA0 d0.length vc0]) (b := [.slice vA1 d1.length vc1]) (da := []) (dm := [Lf.I d0]) (db := [Lf.B d1]) O0.out rfl rfl
  have HC0 := Lib.hid (H0.out _ G0.1.1)
  clear G0
  go_wp2_with fail
  refine HC0.out.mono ?_
  rintro e w1 ⟨rfl, M0, U0⟩
  have O1 := Lib.hid (OwnA.reseg (a := []) (m := [.slice vA0 d0.length vc0]) (b := [.slice vA1 d1.length vc1]) (da := []) (dm := [Lf.I d0]) (db := [Lf.B d1]) (dm' := [(Lf.I d0).marks (k)]) O0.out rfl rfl (OwnA.one M0.out) U0)
  have T1 := Lib.hid (T0.out.chain (U0.mem (by simp +contextual)))
  have X1 : Hid (Box w1 w.heap.size 26 #[.slice vA0 d0.length vc0, .slice vA1 d1.length vc1, .int .i64 d2]) := Lib.hid (X0.out.touch (OwnA.seg (a := []) (m := [.slice vA0 d0.length vc0]) (b := [.slice vA1 d1.length vc1]) (da := []) (dm := [Lf.I d0]) (db := [Lf.B d1]) O0.out rfl rfl) U0 (.inr HH.out))
  clear X0 O0 T0 M0 U0 HC0
  have f1 := X1.out.cell 1 rfl
  have G1 := OwnA.seg (a := [.slice vA0 d0.length vc0]) (m := [.slice vA1 d1.length vc1]) (b := []) (da := [(Lf.I d0).marks (k)]) (dm := [Lf.B d1]) (db := []) O1.out rfl rfl
  have HC1 := Lib.hid (H1.out _ G1.1.1)
  clear G1
  go_wp2_with fail
  try rw [HKe1.out]
  refine HC1.out.mono ?_
  rintro e w2 ⟨rfl, M1, U1⟩
  have O2 := Lib.hid (OwnA.reseg (a := [.slice vA0 d0.length vc0]) (m := [.slice vA1 d1.length vc1]) (b := []) (da := [(Lf.I d0).marks (k)]) (dm := [Lf.B d1]) (db := []) (dm' := [(Lf.B d1).marks (k + (Lf.len (Lf.I d0)))]) O1.out rfl rfl (OwnA.one M1.out) U1)
  have T2 := Lib.hid (T1.out.chain (U1.mem (by simp +contextual)))
  have X2 : Hid (Box w2 w.heap.size 26 #[.slice vA0 d0.length vc0, .slice vA1 d1.length vc1, .int .i64 d2]) := Lib.hid (X1.out.touch (OwnA.seg (a := [.slice vA0 d0.length vc0]) (m := [.slice vA1 d1.length vc1]) (b := []) (da := [(Lf.I d0).marks (k)]) (dm := [Lf.B d1]) (db := []) O1.out rfl rfl) U1 (.inr HH.out))
  clear X1 O1 T1 M1 U1 HC1 f1
  go_wp2
  go_ret
  refine ⟨?_, Lib.hid ?_, T2.out⟩
  · refine ret_int ?_
    simp only [lenA]; omega
  · have := O2.out
    first | exact this | (simp only [marksA, lenA, List.cons_append, List.nil_append, Nat.add_zero, Nat.add_assoc] at this ⊢; exact this)

set_option maxRecDepth 100000 in
set_option maxHeartbeats 4000000 in
theorem heldFlashA (vA0 vA1 : Option Addr) (vc0 vc1 : Nat) (d0 : List Int) (d1 : List Bool) (d2 : Int) (k : Nat) (w : World) (h : RepA w [.slice vA0 d0.length vc0, .slice vA1 d1.length vc1] (marksA k [Lf.I d0, Lf.B d1])) (hk : 1 ≤ k) (hB : BndA [Lf.I d0, Lf.B d1]) (hk2 : k + lenA [Lf.I d0, Lf.B d1] ≤ 549755813888) :
    Calls Try.prog 74 #[.agg #[.slice vA0 d0.length vc0, .slice vA1 d1.length vc1, .int .i64 d2], .int .i64 (k : Int)] w fun e w' => e = .returned (.int .i64 ((k + lenA [Lf.I d0, Lf.B d1] : Nat) : Int)) ∧ Below w.heap.size w w' := by
  have hb0 := alloc_below w (.cells #[.slice vA0 d0.length vc0, .slice vA1 d1.length vc1, .int .i64 d2] 26)
  have X0 := Lib.hid (Box.new w 26 #[.slice vA0 d0.length vc0, .slice vA1 d1.length vc1, .int .i64 d2])
  simp only [marksA] at h
  have H0 := Lib.hid (fun W (hb : Below w.heap.size w W) => heldLI (.slice vA0 d0.length vc0) d0 (k) W (by have := (h.below hb).1; simpa only [Nat.add_assoc] using this) (by omega) (hB (Lf.I d0) (by simp)) (by simp only [lenA] at hk2 ⊢; omega))
  have H1 := Lib.hid (fun W (hb : Below w.heap.size w W) => heldLB (.slice vA1 d1.length vc1) d1 (k + (Lf.len (Lf.I d0))) W (by have := (h.below hb).2.1; simpa only [Nat.add_assoc] using this) (by omega) (hB (Lf.B d1) (by simp)) (by simp only [lenA] at hk2 ⊢; omega))
  clear h hB hk hk2
  go_enter Try.func74, Try.ntmps74
  go_wp2_with fail
  refine (H0.out _ hb0).mono ?_
  rintro e w1 ⟨rfl, hc⟩
  have X1 := Lib.hid (X0.out.step hc)
  have hb1 := bt hb0 hc
  clear X0 hb0 hc
  have hp0 : ¬ ((k + (Lf.len (Lf.I d0)) : Nat) : Int) < 0 := by omega
  have f1 := X1.out.cell 1 rfl
  go_wp2_with fail
  refine (H1.out _ hb1).mono ?_
  rintro e w2 ⟨rfl, hc⟩
  have X2 := Lib.hid (X1.out.step hc)
  have hb2 := bt hb1 hc
  clear X1 hb1 hc f1
  have hp1 : ¬ ((k + (Lf.len (Lf.I d0)) + (Lf.len (Lf.B d1)) : Nat) : Int) < 0 := by omega
  go_wp2
  go_ret
  exact ⟨ret_int (by simp only [lenA]; omega), hb2⟩

end Go.Proofs.Ytngoijchebfolaa
