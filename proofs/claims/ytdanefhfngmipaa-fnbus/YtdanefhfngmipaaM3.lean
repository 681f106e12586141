/- Texts of this claim, one behind the other: CycleOf, BusRead, FlashWrite, FlashWrite2, FlashWrite3, BusWrite, NewFlash, Settle, Flush, Crash, Src, Draw, SrcMore. -/
import Derived.StillTailTactics
import Derived.Deep.RegionHeld3
import Derived.Laws.CopyOwn
import Derived.OwnWalk
import Derived.Laws.OwnMore
import Derived.WalkLawsBesides
import Derived.IntWalk
import Derived.Test.YtdanefhfngmipaaM2
/- The contract of chip.cycle. -/
namespace Go.Proofs.Ytdanefhfngmipaa
open Go.RowKit

def cycZ (zs : List Int) (gs : List Bool) (st : Int) (k v : Nat) : List Int := if st = 3 then progL zs gs k v else if st = 6 then wipeZ zs gs k v else zs
def cycG (gs : List Bool) (st : Int) (k : Nat) : List Bool := if st = 8 then gs.set (k / 16) true else gs
theorem cycZ_len (zs : List Int) (gs : List Bool) (st : Int) (k v : Nat) : (cycZ zs gs st k v).length = zs.length := by
  unfold cycZ
  split
  · exact progL_len _ _ _ _
  · split
    · exact wipeZ_len _ _ _ _
    · rfl
theorem cycG_len (gs : List Bool) (st : Int) (k : Nat) : (cycG gs st k).length = gs.length := by
  unfold cycG
  split
  · exact List.length_set
  · rfl
theorem eraseN_range {zs : List Int} {gs : List Bool} (h : ∀ z ∈ zs, 0 ≤ z ∧ z ≤ 255) : ∀ n, ∀ z ∈ eraseN zs gs n, 0 ≤ z ∧ z ≤ 255
  | 0 => h
  | n + 1 => eraseL_range (eraseN_range h n)
theorem wipeZ_range {zs : List Int} {gs : List Bool} {k v : Nat} (h : ∀ z ∈ zs, 0 ≤ z ∧ z ≤ 255) : ∀ z ∈ wipeZ zs gs k v, 0 ≤ z ∧ z ≤ 255 := by
  unfold wipeZ
  split
  · split
    · exact eraseN_range h 16
    · exact h
  · split
    · exact eraseL_range h
    · exact h
theorem cycZ_range {zs : List Int} {gs : List Bool} {st : Int} {k v : Nat} (h : ∀ z ∈ zs, 0 ≤ z ∧ z ≤ 255) (hv : v < 256) : ∀ z ∈ cycZ zs gs st k v, 0 ≤ z ∧ z ≤ 255 := by
  unfold cycZ
  split
  · exact progL_range h hv
  · split
    · exact wipeZ_range h
    · exact h
theorem nextS_in (st k v : Int) : 0 ≤ nextS st k v ∧ nextS st k v ≤ 8 := by
  unfold nextS cmdS
  split
  · split <;> omega
  · split
    · split <;> omega
    · split
      · split
        · split
          · omega
          · split
            · omega
            · split
              · omega
              · split <;> omega
        · omega
      · split
        · split <;> omega
        · omega

theorem wpStill_load_mid {P : Program} {ops : Array Oper} {w : World} {Q : Act → Prop} {a : Act} {o : Oper} {rest : List Oper} (hgd : o.guard = none) (ty : TypeId) (x : Operand) (ho : o.op = .load ty x)
    (b off : Nat) (hx : a.eval x = .pointer (some ⟨b, off, none⟩)) (cs : List Value) (d : TypeDesc) (hc : w.rangeAt b off cs) (hu : P.underlying ty = some d) (hd : d.isRow = true) (hi : (P.info? ty).map (·.size) = some cs.length)
    (h : wpStill P ops w Q rest (a.put o.dst (.agg cs.toArray))) : wpStill P ops w Q (o :: rest) a :=
  wpStill_step (fun K hK => by
    rw [if_pos (by simp [Region.wanted, hgd])]
    unfold Oper.still execOp
    simp only [ho, hx, Instr.loadAt, Instr.sureAddr, Sem.run_bind, Sem.run_pure, Result.andThen_ok, run_loadVar_mid w b off ty cs d hc hu hd hi]
    rw [Oper.stillUpon_value]
    exact hK _ h)

set_option maxRecDepth 100000 in
set_option maxHeartbeats 8000000 in
theorem chipCycle (k v : Nat) (zs : List Int) (gs : List Bool) (st : Int) (w : World) (hz : zs.length = 256) (hg : gs.length = 16) (hs : 0 ≤ st ∧ st ≤ 8) (hk : k < 256) (hv : v < 256) (hzs : ∀ z ∈ zs, 0 ≤ z ∧ z ≤ 255) :
    Calls Try.prog 131 #[.agg (chipC zs gs st).toArray, .int .i64 k, .int .u8 v] w (GivesChip (cycZ zs gs st k v) (cycG gs st k) (nextS st k v) w) := by
  obtain ⟨X0, Y0, hb0⟩ := two_chips w zs gs st
  have HL := Lib.hid (And.intro hz hg)
  have HIn := Lib.hid infoCx
  obtain ⟨zc, hzc⟩ : ∃ zc, zc = zC.toArray := ⟨_, rfl⟩
  rw [← hzc] at HIn X0 Y0 hb0
  obtain ⟨W1, hW1⟩ : ∃ W1, W1 = (w.alloc (.cells (chipC zs gs st).toArray 86)).alloc (.cells zc 86) := ⟨_, rfl⟩
  have hs1 : W1.heap.size = w.heap.size + 1 + 1 := by rw [hW1]; simp
  rw [← hW1] at X0 Y0 hb0
  have Z0 : BC (W1.alloc (.cells zc 86)) (w.heap.size + 1 + 1) zZ zG 0 := by have := BC.newZ W1; rw [hs1, ← hzc] at this; exact this
  have HLd := Lib.hid (X0.loads hz hg)
  have HSt := Lib.hid (Z0.stores (zs' := zs) (gs' := gs) (st' := st) zZ_len zG_len hz hg)
  obtain ⟨W3, hW3⟩ : ∃ W3, W3 = (W1.alloc (.cells zc 86)).setCells (w.heap.size + 1 + 1) 0 (chipC zs gs st) := ⟨_, rfl⟩
  have X3 : BC W3 w.heap.size zs gs st := by rw [hW3]; exact (X0.alloc _).far' (by omega) _ _
  have Y3 : BC W3 (w.heap.size + 1) zZ zG 0 := by rw [hW3]; exact (Y0.alloc _).far' (by omega) _ _
  have Z3 : BC W3 (w.heap.size + 1 + 1) zs gs st := by rw [hW3]; exact Z0.put (hz.trans zZ_len.symm) (hg.trans zG_len.symm)
  have hb3 : Below w.heap.size w W3 := by rw [hW3]; exact below_setCellsC (bt hb0 (alloc_below _ _)) (by omega) 0 _
  have x2 := X3.state hz hg
  have HLd3 := Lib.hid (X3.loads hz hg)
  have HN := Lib.hid (fun W => chipNext k v zs gs st W hz hg hs)
  have HPr := Lib.hid (fun W => chipProgram k v zs gs st W hz hg hk hv hzs)
  have HWi := Lib.hid (fun W => chipWipe k v zs gs st W hz hg hk hv)
  have HGu := Lib.hid (fun W => chipProtect (k / 16) zs gs st W hz hg (by omega))
  have HPr : Hid (∀ W, Calls Try.prog 132 #[.agg (chipC zs gs st).toArray, .int .i64 k, .int .u8 v] W fun e w' => e = .returned (.agg (chipC (progL zs gs k v) gs st).toArray) ∧ Below W.heap.size W w') := HPr
  have HWi : Hid (∀ W, Calls Try.prog 133 #[.agg (chipC zs gs st).toArray, .int .i64 k, .int .u8 v] W fun e w' => e = .returned (.agg (chipC (wipeZ zs gs k v) gs st).toArray) ∧ Below W.heap.size W w') := HWi
  have HGu : Hid (∀ W, Calls Try.prog 134 #[.agg (chipC zs gs st).toArray, .int .i64 ((k / 16 : Nat) : Int)] W fun e w' => e = .returned (.agg (chipC zs (gs.set (k / 16) true) st).toArray) ∧ Below W.heap.size W w') := HGu
  have HBo := Lib.hid (fun W => blockOf k (by omega) W)
  have HX3 := Lib.hid (And.intro X3 (And.intro Y3 Z3))
  have HB3 := Lib.hid hb3
  generalize hns : nextS st k v = sn at HN
  have HNs := Lib.hid hns
  generalize hc0 : chipC zs gs st = c0 at HLd HSt HLd3 HN HPr HWi HGu hW1 hW3
  have HC0 := Lib.hid hc0
  have HW1 := Lib.hid hW1
  have HW3 := Lib.hid hW3
  have HS1 := Lib.hid hs1
  rw [hW3] at x2
  clear hz hg hs X0 Y0 Z0 hb0 hzc hW1 hs1 hW3 X3 Y3 Z3 hb3 hzs hns hc0
  by_cases h3 : st = 3
  · subst h3
    have HE : Hid (cycZ zs gs 3 k v = progL zs gs k v ∧ cycG gs 3 k = gs) := Lib.hid ⟨by unfold cycZ; rw [if_pos rfl], by unfold cycG; rw [if_neg (by omega)]⟩
    go_enter Try.func131, Try.ntmps131
    obtain ⟨c4, hc4⟩ : ∃ c4, c4 = chipC (progL zs gs k v) (gs) 3 := ⟨_, rfl⟩
    rw [← hc4] at HPr
    have HC4 := Lib.hid hc4
    clear hc4
    go_wp2_with (first
      | (with_reducible refine wpList_alloc_at rfl 86 rfl zc HIn.out (w.heap.size + 1 + 1) HS1.out ?_)
      | (with_reducible refine wpList_alloc_big rfl 86 rfl zc HIn.out ?_)
      | (rw [← HW3.out]; with_reducible refine wpList_load_mid rfl 86 (.tmp 3) rfl w.heap.size 0 rfl c0 _ HLd3.out.range Try.underlying86 rfl HLd3.out.size ?_)
      | (rw [← HW1.out]; with_reducible refine wpList_load_mid rfl 86 (.tmp 3) rfl w.heap.size 0 rfl c0 _ HLd.out.range Try.underlying86 rfl HLd.out.size ?_)
      | (with_reducible refine wpList_store_mid rfl 86 (.tmp 7) (.tmp 8) rfl (w.heap.size + 1 + 1) 0 c0.toArray rfl rfl HSt.out.room HSt.out.size HSt.out.one ?_))
    refine (HPr.out W3).mono ?_
    rintro e w4 ⟨rfl, hb4⟩
    have HS4 := Lib.hid ((HX3.out.2.2.step hb4).stores (zs' := progL zs gs k v) (gs' := gs) (st' := 3) HL.out.1 HL.out.2 (by rw [progL_len]; exact HL.out.1) (HL.out.2))
    rw [← HC4.out] at HS4
    obtain ⟨W5, hW5⟩ : ∃ W5, W5 = w4.setCells (w.heap.size + 1 + 1) 0 c4 := ⟨_, rfl⟩
    have X5 : BC W5 w.heap.size zs gs 3 := by rw [hW5]; exact (HX3.out.1.step hb4).far' (by omega) _ _
    have Y5 : BC W5 (w.heap.size + 1) zZ zG 0 := by rw [hW5]; exact (HX3.out.2.1.step hb4).far' (by omega) _ _
    have Z5 : BC W5 (w.heap.size + 1 + 1) (progL zs gs k v) (gs) 3 := by rw [hW5, HC4.out]; exact (HX3.out.2.2.step hb4).put ((by rw [progL_len]; exact HL.out.1 : _ = 256).trans HL.out.1.symm) ((HL.out.2 : _ = 16).trans HL.out.2.symm)
    have hb5 : Below w.heap.size w W5 := by rw [hW5]; exact below_setCellsC (bt HB3.out hb4) (by omega) 0 _
    have HLd5 := Lib.hid (X5.loads HL.out.1 HL.out.2)
    rw [HC0.out] at HLd5
    have HX5 := Lib.hid (And.intro Y5 Z5)
    have HB5 := Lib.hid hb5
    have HW5 := Lib.hid hW5
    clear x2 hb4 X5 Y5 Z5 hb5 hW5 HX3 HB3 HLd HSt HLd3
    go_wp2_with (first
      | (with_reducible refine wpList_store_mid rfl 86 (.tmp 7) (.tmp 16) rfl (w.heap.size + 1 + 1) 0 c4.toArray rfl rfl HS4.out.room HS4.out.size HS4.out.one ?_)
      | (rw [← HW5.out]; with_reducible refine wpList_load_mid rfl 86 (.tmp 3) rfl w.heap.size 0 rfl c0 _ HLd5.out.range Try.underlying86 rfl HLd5.out.size ?_))
    refine (HN.out W5).mono ?_
    rintro e w6 ⟨rfl, hb6⟩
    have HZ6 := Lib.hid (HX5.out.2.step hb6)
    have HY6 := Lib.hid (HX5.out.1.step hb6)
    have hbz := bt HB5.out hb6
    clear hb6 HX5 HB5 HW5 HLd5
    have c6 := HZ6.out.state (by rw [progL_len]; exact HL.out.1) (HL.out.2)
    have c6z := HZ6.out.frozen 272
    have hZ7 := HZ6.out.setS (by rw [progL_len]; exact HL.out.1) (HL.out.2) sn
    have hY7 := HY6.out.far (p := ⟨w.heap.size + 1 + 1, 272, none⟩) (by show w.heap.size + 1 ≠ w.heap.size + 1 + 1; omega) (.int .i64 sn)
    have HH := Lib.hid (hZ7.hands hY7 (by rw [progL_len]; exact HL.out.1) (HL.out.2) zZ_len zG_len)
    generalize hc7 : chipC (progL zs gs k v) (gs) sn = c7 at HH
    have HC7 := Lib.hid hc7
    clear hZ7 hY7 hc7
    go_wp2_with (first
      | (with_reducible refine wpList_load_mid rfl 86 (.tmp 7) rfl (w.heap.size + 1 + 1) 0 rfl c7 _ HH.out.range Try.underlying86 rfl HH.out.size ?_)
      | (with_reducible refine wpList_store_mid rfl 86 (.tmp 6) (.tmp 34) rfl (w.heap.size + 1) 0 c7.toArray rfl rfl HH.out.room HH.out.size' HH.out.one ?_))
    refine bodyPost_ret (v := .agg c7.toArray) (results_cellC Try.results131 (by rfl) HH.out.back) rfl ?_
    exact ⟨by rw [HE.out.1, HE.out.2, HC7.out], below_setCellsC (hbz.setCell (p := ⟨w.heap.size + 1 + 1, 272, none⟩) (by show w.heap.size ≤ w.heap.size + 1 + 1; omega) _) (by omega) 0 c7⟩
  by_cases h6 : st = 6
  · subst h6
    clear h3
    have HE : Hid (cycZ zs gs 6 k v = wipeZ zs gs k v ∧ cycG gs 6 k = gs) := Lib.hid ⟨by unfold cycZ; rw [if_neg (by omega), if_pos rfl], by unfold cycG; rw [if_neg (by omega)]⟩
    go_enter Try.func131, Try.ntmps131
    obtain ⟨c4, hc4⟩ : ∃ c4, c4 = chipC (wipeZ zs gs k v) (gs) 6 := ⟨_, rfl⟩
    rw [← hc4] at HWi
    have HC4 := Lib.hid hc4
    clear hc4
    go_wp2_with (first
      | (with_reducible refine wpList_alloc_at rfl 86 rfl zc HIn.out (w.heap.size + 1 + 1) HS1.out ?_)
      | (with_reducible refine wpList_alloc_big rfl 86 rfl zc HIn.out ?_)
      | (rw [← HW3.out]; with_reducible refine wpList_load_mid rfl 86 (.tmp 3) rfl w.heap.size 0 rfl c0 _ HLd3.out.range Try.underlying86 rfl HLd3.out.size ?_)
      | (rw [← HW1.out]; with_reducible refine wpList_load_mid rfl 86 (.tmp 3) rfl w.heap.size 0 rfl c0 _ HLd.out.range Try.underlying86 rfl HLd.out.size ?_)
      | (with_reducible refine wpList_store_mid rfl 86 (.tmp 7) (.tmp 8) rfl (w.heap.size + 1 + 1) 0 c0.toArray rfl rfl HSt.out.room HSt.out.size HSt.out.one ?_))
    refine (HWi.out W3).mono ?_
    rintro e w4 ⟨rfl, hb4⟩
    have HS4 := Lib.hid ((HX3.out.2.2.step hb4).stores (zs' := wipeZ zs gs k v) (gs' := gs) (st' := 6) HL.out.1 HL.out.2 (by rw [wipeZ_len]; exact HL.out.1) (HL.out.2))
    rw [← HC4.out] at HS4
    obtain ⟨W5, hW5⟩ : ∃ W5, W5 = w4.setCells (w.heap.size + 1 + 1) 0 c4 := ⟨_, rfl⟩
    have X5 : BC W5 w.heap.size zs gs 6 := by rw [hW5]; exact (HX3.out.1.step hb4).far' (by omega) _ _
    have Y5 : BC W5 (w.heap.size + 1) zZ zG 0 := by rw [hW5]; exact (HX3.out.2.1.step hb4).far' (by omega) _ _
    have Z5 : BC W5 (w.heap.size + 1 + 1) (wipeZ zs gs k v) (gs) 6 := by rw [hW5, HC4.out]; exact (HX3.out.2.2.step hb4).put ((by rw [wipeZ_len]; exact HL.out.1 : _ = 256).trans HL.out.1.symm) ((HL.out.2 : _ = 16).trans HL.out.2.symm)
    have hb5 : Below w.heap.size w W5 := by rw [hW5]; exact below_setCellsC (bt HB3.out hb4) (by omega) 0 _
    have HLd5 := Lib.hid (X5.loads HL.out.1 HL.out.2)
    rw [HC0.out] at HLd5
    have HX5 := Lib.hid (And.intro Y5 Z5)
    have HB5 := Lib.hid hb5
    have HW5 := Lib.hid hW5
    clear x2 hb4 X5 Y5 Z5 hb5 hW5 HX3 HB3 HLd HSt HLd3
    go_wp2_with (first
      | (with_reducible refine wpList_store_mid rfl 86 (.tmp 7) (.tmp 22) rfl (w.heap.size + 1 + 1) 0 c4.toArray rfl rfl HS4.out.room HS4.out.size HS4.out.one ?_)
      | (rw [← HW5.out]; with_reducible refine wpList_load_mid rfl 86 (.tmp 3) rfl w.heap.size 0 rfl c0 _ HLd5.out.range Try.underlying86 rfl HLd5.out.size ?_))
    refine (HN.out W5).mono ?_
    rintro e w6 ⟨rfl, hb6⟩
    have HZ6 := Lib.hid (HX5.out.2.step hb6)
    have HY6 := Lib.hid (HX5.out.1.step hb6)
    have hbz := bt HB5.out hb6
    clear hb6 HX5 HB5 HW5 HLd5
    have c6 := HZ6.out.state (by rw [wipeZ_len]; exact HL.out.1) (HL.out.2)
    have c6z := HZ6.out.frozen 272
    have hZ7 := HZ6.out.setS (by rw [wipeZ_len]; exact HL.out.1) (HL.out.2) sn
    have hY7 := HY6.out.far (p := ⟨w.heap.size + 1 + 1, 272, none⟩) (by show w.heap.size + 1 ≠ w.heap.size + 1 + 1; omega) (.int .i64 sn)
    have HH := Lib.hid (hZ7.hands hY7 (by rw [wipeZ_len]; exact HL.out.1) (HL.out.2) zZ_len zG_len)
    generalize hc7 : chipC (wipeZ zs gs k v) (gs) sn = c7 at HH
    have HC7 := Lib.hid hc7
    clear hZ7 hY7 hc7
    go_wp2_with (first
      | (with_reducible refine wpList_load_mid rfl 86 (.tmp 7) rfl (w.heap.size + 1 + 1) 0 rfl c7 _ HH.out.range Try.underlying86 rfl HH.out.size ?_)
      | (with_reducible refine wpList_store_mid rfl 86 (.tmp 6) (.tmp 34) rfl (w.heap.size + 1) 0 c7.toArray rfl rfl HH.out.room HH.out.size' HH.out.one ?_))
    refine bodyPost_ret (v := .agg c7.toArray) (results_cellC Try.results131 (by rfl) HH.out.back) rfl ?_
    exact ⟨by rw [HE.out.1, HE.out.2, HC7.out], below_setCellsC (hbz.setCell (p := ⟨w.heap.size + 1 + 1, 272, none⟩) (by show w.heap.size ≤ w.heap.size + 1 + 1; omega) _) (by omega) 0 c7⟩
  by_cases h8 : st = 8
  · subst h8
    clear h3 h6
    have HE : Hid (cycZ zs gs 8 k v = zs ∧ cycG gs 8 k = gs.set (k / 16) true) := Lib.hid ⟨by unfold cycZ; rw [if_neg (by omega), if_neg (by omega)], by unfold cycG; rw [if_pos rfl]⟩
    go_enter Try.func131, Try.ntmps131
    obtain ⟨c4, hc4⟩ : ∃ c4, c4 = chipC (zs) (gs.set (k / 16) true) 8 := ⟨_, rfl⟩
    rw [← hc4] at HGu
    have HC4 := Lib.hid hc4
    clear hc4
    have h6 : Below W3.heap.size W3 W3.drew := (Below.refl _ _).drew
    have HLd3' := Lib.hid ((BC.step HX3.out.1 h6).loads HL.out.1 HL.out.2)
    rw [HC0.out] at HLd3'
    go_wp2_with (first
      | (with_reducible refine wpList_alloc_at rfl 86 rfl zc HIn.out (w.heap.size + 1 + 1) HS1.out ?_)
      | (with_reducible refine wpList_alloc_big rfl 86 rfl zc HIn.out ?_)
      | (rw [← HW3.out]; with_reducible refine wpList_load_mid rfl 86 (.tmp 3) rfl w.heap.size 0 rfl c0 _ HLd3.out.range Try.underlying86 rfl HLd3.out.size ?_)
      | (rw [← HW1.out]; with_reducible refine wpList_load_mid rfl 86 (.tmp 3) rfl w.heap.size 0 rfl c0 _ HLd.out.range Try.underlying86 rfl HLd.out.size ?_)
      | (with_reducible refine wpList_store_mid rfl 86 (.tmp 7) (.tmp 8) rfl (w.heap.size + 1 + 1) 0 c0.toArray rfl rfl HSt.out.room HSt.out.size HSt.out.one ?_))
    rw [← HW3.out]
    refine wp_region_still_tail 3 (by kernel_rfl) (by kernel_rfl) ?_
    simp only [List.take_succ_cons, List.take_zero, List.drop_succ_cons, List.drop_zero]
    refine wpStill_load_mid rfl 86 (.tmp 3) rfl w.heap.size 0 rfl c0 _ HLd3'.out.range Try.underlying86 rfl HLd3'.out.size ?_
    still_step
    still_call ((HBo.out _).mono fun _ _ ⟨q1, q2⟩ => ⟨q1, q2.symm⟩)
    refine wpStill_nil ?_
    change wpList _ _ _ _ _ W3.drew
    generalize hWd : W3.drew = Wd at h6 HLd3' ⊢
    clear hWd
    clear HLd3'
    go_wp2_with fail
    refine (HGu.out Wd).mono ?_
    rintro e w4 ⟨rfl, hb4'⟩
    have hb4 := bt h6 hb4'
    clear h6 hb4'
    have HS4 := Lib.hid ((HX3.out.2.2.step hb4).stores (zs' := zs) (gs' := gs.set (k / 16) true) (st' := 8) HL.out.1 HL.out.2 (HL.out.1) (by rw [List.length_set]; exact HL.out.2))
    rw [← HC4.out] at HS4
    obtain ⟨W5, hW5⟩ : ∃ W5, W5 = w4.setCells (w.heap.size + 1 + 1) 0 c4 := ⟨_, rfl⟩
    have X5 : BC W5 w.heap.size zs gs 8 := by rw [hW5]; exact (HX3.out.1.step hb4).far' (by omega) _ _
    have Y5 : BC W5 (w.heap.size + 1) zZ zG 0 := by rw [hW5]; exact (HX3.out.2.1.step hb4).far' (by omega) _ _
    have Z5 : BC W5 (w.heap.size + 1 + 1) (zs) (gs.set (k / 16) true) 8 := by rw [hW5, HC4.out]; exact (HX3.out.2.2.step hb4).put ((HL.out.1 : _ = 256).trans HL.out.1.symm) ((by rw [List.length_set]; exact HL.out.2 : _ = 16).trans HL.out.2.symm)
    have hb5 : Below w.heap.size w W5 := by rw [hW5]; exact below_setCellsC (bt HB3.out hb4) (by omega) 0 _
    have HLd5 := Lib.hid (X5.loads HL.out.1 HL.out.2)
    rw [HC0.out] at HLd5
    have HX5 := Lib.hid (And.intro Y5 Z5)
    have HB5 := Lib.hid hb5
    have HW5 := Lib.hid hW5
    clear x2 hb4 X5 Y5 Z5 hb5 hW5 HX3 HB3 HLd HSt HLd3
    go_wp2_with (first
      | (with_reducible refine wpList_store_mid rfl 86 (.tmp 7) (.tmp 28) rfl (w.heap.size + 1 + 1) 0 c4.toArray rfl rfl HS4.out.room HS4.out.size HS4.out.one ?_)
      | (rw [← HW5.out]; with_reducible refine wpList_load_mid rfl 86 (.tmp 3) rfl w.heap.size 0 rfl c0 _ HLd5.out.range Try.underlying86 rfl HLd5.out.size ?_))
    refine (HN.out W5).mono ?_
    rintro e w6 ⟨rfl, hb6⟩
    have HZ6 := Lib.hid (HX5.out.2.step hb6)
    have HY6 := Lib.hid (HX5.out.1.step hb6)
    have hbz := bt HB5.out hb6
    clear hb6 HX5 HB5 HW5 HLd5
    have c6 := HZ6.out.state (HL.out.1) (by rw [List.length_set]; exact HL.out.2)
    have c6z := HZ6.out.frozen 272
    have hZ7 := HZ6.out.setS (HL.out.1) (by rw [List.length_set]; exact HL.out.2) sn
    have hY7 := HY6.out.far (p := ⟨w.heap.size + 1 + 1, 272, none⟩) (by show w.heap.size + 1 ≠ w.heap.size + 1 + 1; omega) (.int .i64 sn)
    have HH := Lib.hid (hZ7.hands hY7 (HL.out.1) (by rw [List.length_set]; exact HL.out.2) zZ_len zG_len)
    generalize hc7 : chipC (zs) (gs.set (k / 16) true) sn = c7 at HH
    have HC7 := Lib.hid hc7
    clear hZ7 hY7 hc7
    go_wp2_with (first
      | (with_reducible refine wpList_load_mid rfl 86 (.tmp 7) rfl (w.heap.size + 1 + 1) 0 rfl c7 _ HH.out.range Try.underlying86 rfl HH.out.size ?_)
      | (with_reducible refine wpList_store_mid rfl 86 (.tmp 6) (.tmp 34) rfl (w.heap.size + 1) 0 c7.toArray rfl rfl HH.out.room HH.out.size' HH.out.one ?_))
    refine bodyPost_ret (v := .agg c7.toArray) (results_cellC Try.results131 (by rfl) HH.out.back) rfl ?_
    exact ⟨by rw [HE.out.1, HE.out.2, HC7.out], below_setCellsC (hbz.setCell (p := ⟨w.heap.size + 1 + 1, 272, none⟩) (by show w.heap.size ≤ w.heap.size + 1 + 1; omega) _) (by omega) 0 c7⟩
  have q3 : (st == 3) = false := by simp [h3]
  have q6 : (st == 6) = false := by simp [h6]
  have q8 : (st == 8) = false := by simp [h8]
  have HE : Hid (cycZ zs gs st k v = zs ∧ cycG gs st k = gs) := Lib.hid ⟨by unfold cycZ; rw [if_neg h3, if_neg h6], by unfold cycG; rw [if_neg h8]⟩
  clear h3 h6 h8
  go_enter Try.func131, Try.ntmps131
  go_wp2_with (first
    | (with_reducible refine wpList_alloc_at rfl 86 rfl zc HIn.out (w.heap.size + 1 + 1) HS1.out ?_)
    | (with_reducible refine wpList_alloc_big rfl 86 rfl zc HIn.out ?_)
    | (rw [← HW3.out]; with_reducible refine wpList_load_mid rfl 86 (.tmp 3) rfl w.heap.size 0 rfl c0 _ HLd3.out.range Try.underlying86 rfl HLd3.out.size ?_)
    | (rw [← HW1.out]; with_reducible refine wpList_load_mid rfl 86 (.tmp 3) rfl w.heap.size 0 rfl c0 _ HLd.out.range Try.underlying86 rfl HLd.out.size ?_)
    | (with_reducible refine wpList_store_mid rfl 86 (.tmp 7) (.tmp 8) rfl (w.heap.size + 1 + 1) 0 c0.toArray rfl rfl HSt.out.room HSt.out.size HSt.out.one ?_))
  refine (HN.out W3).mono ?_
  rintro e w6 ⟨rfl, hb6⟩
  have HZ6 := Lib.hid (HX3.out.2.2.step hb6)
  have HY6 := Lib.hid (HX3.out.2.1.step hb6)
  have hbz := bt HB3.out hb6
  clear hb6 HX3 HB3 x2 HLd HSt HLd3
  have c6 := HZ6.out.state (HL.out.1) (HL.out.2)
  have c6z := HZ6.out.frozen 272
  have hZ7 := HZ6.out.setS (HL.out.1) (HL.out.2) sn
  have hY7 := HY6.out.far (p := ⟨w.heap.size + 1 + 1, 272, none⟩) (by show w.heap.size + 1 ≠ w.heap.size + 1 + 1; omega) (.int .i64 sn)
  have HH := Lib.hid (hZ7.hands hY7 (HL.out.1) (HL.out.2) zZ_len zG_len)
  generalize hc7 : chipC (zs) (gs) sn = c7 at HH
  have HC7 := Lib.hid hc7
  clear hZ7 hY7 hc7
  go_wp2_with (first
    | (with_reducible refine wpList_load_mid rfl 86 (.tmp 7) rfl (w.heap.size + 1 + 1) 0 rfl c7 _ HH.out.range Try.underlying86 rfl HH.out.size ?_)
    | (with_reducible refine wpList_store_mid rfl 86 (.tmp 6) (.tmp 34) rfl (w.heap.size + 1) 0 c7.toArray rfl rfl HH.out.room HH.out.size' HH.out.one ?_))
  refine bodyPost_ret (v := .agg c7.toArray) (results_cellC Try.results131 (by rfl) HH.out.back) rfl ?_
  exact ⟨by rw [HE.out.1, HE.out.2, HC7.out], below_setCellsC (hbz.setCell (p := ⟨w.heap.size + 1 + 1, 272, none⟩) (by show w.heap.size ≤ w.heap.size + 1 + 1; omega) _) (by omega) 0 c7⟩
end Go.Proofs.Ytdanefhfngmipaa

/- Contracts of Flash.identify, l01Bit, l03Read and both BusRead. -/
namespace Go.Proofs.Ytdanefhfngmipaa
open Go.RowKit

def readV (zs : List Int) (gs : List Bool) (st : Int) (n : Nat) : Int :=
  if st = 7 then (if n % 4 = 0 then 32 else if n % 4 = 1 then 47 else if n % 4 = 2 then (if gs.getD (n / 16) false then 1 else 0) else 255) else zs.getD n 0
def readOf (zs : List Int) (gs : List Bool) (st a : Int) : Int × Int :=
  if okFlash zs gs st then (if byB a then (readV zs gs st a.toNat, 0) else (0, 4)) else (0, 1)

theorem quiet_same' {P : Program} {f : FuncId} {args : Array Value} {w : World} {n : Nat} {v : Value}
    (h : Calls P f args (w.drewN n) fun e w' => e = .returned v ∧ w.drewN n = w') : Calls P f args (w.drewN n) fun e w' => e = .returned v ∧ ∃ m, w' = w.drewN m :=
  h.mono fun _ _ ⟨he, hw⟩ => ⟨he, n, hw.symm⟩

set_option maxRecDepth 100000 in
theorem l01Bit (q : Bool) (w : World) : Calls Try.prog 91 #[.bool q] w fun e w' => e = .returned (.int .i64 (if q then 1 else 0)) ∧ w = w' := by
  cases q <;> (go_enter Try.func91, Try.ntmps91; go_wp2; go_ret; exact ⟨rfl, rfl⟩)

set_option maxRecDepth 100000 in
theorem l03Read (A C : Option Addr) (n c d k : Nat) (st : Int) (zs : List Int) (gs : List Bool) (w : World) (hl : zs.length = n) (hn : n = 256) (hm : gs.length = 16) (hk : k ≤ 255) (h : IntL w A zs) (g : BoolL w C gs) :
    Calls Try.prog 61 #[.agg #[.slice A n c, .slice C 16 d, .int .i64 st], .int .i64 k] w fun e w' => e = .returned (.int .i64 (readV zs gs st k)) ∧ Below w.heap.size w w' := by
  have hb0 := alloc_below w (.cells #[.slice A n c, .slice C 16 d, .int .i64 st] 26)
  have hdiv : k / 16 < 16 := by omega
  have hki : (k : Int) < (n : Int) := by omega
  by_cases h7 : st = 7
  · subst h7
    obtain ⟨b, off, rfl, hc⟩ := (g.below hb0) (k / 16) (by omega)
    have HR : Hid (∀ q, q = gs.getD (k / 16) false → readV zs gs 7 k = if k % 4 = 0 then 32 else if k % 4 = 1 then 47 else if k % 4 = 2 then (if q then 1 else 0) else 255) := Lib.hid (by intro q hq; subst hq; unfold readV; rw [if_pos rfl])
    generalize readV zs gs 7 k = r at HR
    have HR2 := Lib.hid (HR.out _ rfl)
    generalize gs.getD (k / 16) false = q at hc HR2
    have h4 : k % 4 = 0 ∨ k % 4 = 1 ∨ k % 4 = 2 ∨ k % 4 = 3 := by omega
    have ha := and_3 k (by omega)
    have hdi : ((k / 16 : Nat) : Int) < 16 := by omega
    clear hm g HR hl hn h
    rcases h4 with h4 | h4 | h4 | h4
    · have e : r = 32 := by rw [HR2.out, if_pos h4]
      rw [h4] at ha
      clear HR2 h4
      subst e
      go_enter Try.func61, Try.ntmps61
      go_wp2
      go_ret
      exact ⟨rfl, hb0⟩
    · have e : r = 47 := by rw [HR2.out, if_neg (by omega), if_pos h4]
      rw [h4] at ha
      clear HR2 h4
      subst e
      go_enter Try.func61, Try.ntmps61
      go_wp2
      go_ret
      exact ⟨rfl, hb0⟩
    · have e : r = if q then 1 else 0 := by rw [HR2.out, if_neg (by omega), if_neg (by omega), if_pos h4]
      rw [h4] at ha
      have HE := Lib.hid e
      clear HR2 h4 e
      cases q <;> (
        go_enter Try.func61, Try.ntmps61
        go_wp2_with (first | (go_at_call 91; refine (l01Bit _ _).mono ?_; rintro e w' ⟨rfl, rfl⟩))
        go_ret
        exact ⟨ret_int HE.out.symm, hb0⟩)
    · have e : r = 255 := by rw [HR2.out, if_neg (by omega), if_neg (by omega), if_neg (by omega)]
      rw [h4] at ha
      clear HR2 h4
      subst e
      go_enter Try.func61, Try.ntmps61
      go_wp2
      go_ret
      exact ⟨rfl, hb0⟩
  · have hq7 : (st != 7) = true := by simp [h7]
    obtain ⟨b, off, rfl, hc⟩ := (h.below hb0) k (by omega)
    have HE : Hid (readV zs gs st k = zs.getD k 0) := Lib.hid (by unfold readV; rw [if_neg h7])
    generalize readV zs gs st k = r at HE
    generalize zs.getD k 0 = z at hc HE
    clear hm g hl hn h h7
    go_enter Try.func61, Try.ntmps61
    go_wp2
    go_ret
    exact ⟨ret_int HE.out.symm, hb0⟩

theorem readOf_bad (zs : List Int) (gs : List Bool) (st a : Int) (h : okFlash zs gs st = false) : readOf zs gs st a = (0, 1) := by unfold readOf; simp [h]
theorem readOf_range (zs : List Int) (gs : List Bool) (st a : Int) (h : okFlash zs gs st = true) (h2 : byB a = false) : readOf zs gs st a = (0, 4) := by unfold readOf; simp [h, h2]
theorem readOf_ok (zs : List Int) (gs : List Bool) (st : Int) (k : Nat) (h : okFlash zs gs st = true) (h2 : byB k = true) : readOf zs gs st k = (readV zs gs st k, 0) := by unfold readOf; simp [h, h2]
theorem readV_7 (zs : List Int) (gs : List Bool) (k : Nat) : readV zs gs 7 k = readV [] gs 7 k := by unfold readV; rw [if_pos rfl, if_pos rfl]

set_option maxRecDepth 100000 in
set_option maxHeartbeats 1000000 in
theorem specBusRead (A C : Option Addr) (n c m d : Nat) (st : Int) (zs : List Int) (gs : List Bool) (a : Int) (w : World) (hl : zs.length = n) (hm : gs.length = m) (hn : n ≤ maxLen) (hmm : m ≤ maxLen) (h : IntL w A zs) (g : BoolL w C gs) :
    Calls Try.prog 23 #[.agg #[.slice A n c, .slice C m d, .int .i64 st], .int .i64 a] w fun e w' => e = .returned (.tuple #[.int .i64 (readOf zs gs st a).1, .int .i64 (readOf zs gs st a).2]) ∧ Below w.heap.size w w' := by
  have hb0 := alloc_below w (.cells #[.slice A n c, .slice C m d, .int .i64 st] 26)
  have X0 := Lib.hid (Box.new w 26 #[.slice A n c, .slice C m d, .int .i64 st])
  have HC := Lib.hid (fun W (hb : Below w.heap.size w W) => l03Ask A C n c m d st (byB a) zs gs W hl hm hn hmm (h.below hb))
  have H := Lib.hid (And.intro hl (And.intro hm (And.intro h g)))
  clear hl hm hn hmm h g
  obtain ⟨W0, hW0⟩ : ∃ W0, W0 = w.alloc (.cells #[.slice A n c, .slice C m d, .int .i64 st] 26) := ⟨_, rfl⟩
  have HRd : Hid (readOf zs gs st a = if codeIf (okFlash zs gs st) (byB a) = 0 then (readV zs gs st a.toNat, 0) else (0, codeIf (okFlash zs gs st) (byB a))) := Lib.hid (by unfold readOf codeIf; cases okFlash zs gs st <;> cases byB a <;> rfl)
  have HOk : Hid (codeIf (okFlash zs gs st) (byB a) = 0 → okFlash zs gs st = true ∧ byB a = true) := Lib.hid (by unfold codeIf; cases okFlash zs gs st <;> cases byB a <;> simp)
  generalize readOf zs gs st a = r at HRd
  generalize hcd : codeIf (okFlash zs gs st) (byB a) = cd at HC HRd HOk
  clear hcd
  have f0 := X0.out.cell 0 rfl
  have f1 := X0.out.cell 1 rfl
  have f2 := X0.out.cell 2 rfl
  rw [← hW0] at hb0 X0 f0 f1 f2
  have HK := Lib.hid (fun W' (hb : Below W0.heap.size W0 W') => And.intro ((hb.cell (cell_lt f0)).trans f0) (And.intro ((hb.cell (cell_lt f1)).trans f1) ((hb.cell (cell_lt f2)).trans f2)))
  have HW := Lib.hid hW0
  clear hW0
  have h6 : Below W0.heap.size W0 W0.drew := (Below.refl _ _).drew
  go_enter Try.func23, Try.ntmps23
  go_wp2
  rw [← HW.out]
  go_region_held3 (fun W => W.cell? ⟨w.heap.size, 0, none⟩ = some (.slice A n c) ∧ W.cell? ⟨w.heap.size, 1, none⟩ = some (.slice C m d) ∧ W.cell? ⟨w.heap.size, 2, none⟩ = some (.int .i64 st))
    (first | exact HK.out _ h6 | exact HK.out _ (bt h6 hb2))
    (first | (go_at_call 60; refine (l03At _ _).mono ?_; rintro e w' ⟨rfl, rfl⟩) | (go_at_call 59; refine (HC.out _ hb0.drew).mono ?_; rintro e w2 ⟨rfl, hb2⟩))
  have hb := bt (bt hb0 h6) hb2
  have f0' := (HK.out _ (bt h6 hb2)).1
  have f1' := (HK.out _ (bt h6 hb2)).2.1
  have f2' := (HK.out _ (bt h6 hb2)).2.2
  clear f0 f1 f2 hb0 h6 HK X0 HW HC hb2
  by_cases hz : cd = 0
  · subst hz
    obtain ⟨hok, ha⟩ := HOk.out rfl
    have q := okFlash_len hok
    obtain rfl : n = 256 := by have := H.out.1; omega
    obtain rfl : m = 16 := by have := H.out.2.1; omega
    obtain ⟨k, rfl⟩ : ∃ k : Nat, a = k := ⟨a.toNat, by have := byB_range ha; omega⟩
    have HI := Lib.hid (l03Read A C 256 c d k st zs gs w2 H.out.1 rfl H.out.2.1 (by have := byB_range ha; omega) (H.out.2.2.1.below hb) (H.out.2.2.2.below hb))
    have HRz : Hid (r = (readV zs gs st k, 0)) := Lib.hid (by rw [HRd.out, if_pos rfl]; rfl)
    generalize readV zs gs st k = z at HRz HI
    clear q hok ha H HRd HOk
    go_wp2_with fail
    refine HI.out.mono ?_
    rintro e w3 ⟨rfl, hb3⟩
    go_wp2
    refine bodyPost_ret (v := .tuple #[.int .i64 z, .int .i64 0]) (by simp [results, Try.results23, go_sem]) rfl ?_
    exact ⟨by rw [HRz.out], bt hb hb3⟩
  · have hcb : (cd != 0) = true := by simp [hz]
    have HRz : Hid (r = (0, cd)) := Lib.hid (by rw [HRd.out, if_neg hz])
    clear hz HRd HOk H
    go_wp2
    refine bodyPost_ret (v := .tuple #[.int .i64 0, .int .i64 cd]) (by simp [results, Try.results23, go_sem]) rfl ?_
    exact ⟨by rw [HRz.out], hb⟩
end Go.Proofs.Ytdanefhfngmipaa

/- The model's bus cycle: l03Third, l03Write, BusWrite. -/
namespace Go.Proofs.Ytdanefhfngmipaa
open Go.RowKit

def writeF (zs : List Int) (gs : List Bool) (st a v : Int) := gate (codeIf (okFlash zs gs st) (byB a && byB v)) (cycZ zs gs st a.toNat v.toNat) (cycG gs st a.toNat) (nextS st a v)
theorem writeF_bound (zs : List Int) (gs : List Bool) (st a v : Int) : (writeF zs gs st a v).1.length ≤ 1048576 ∧ (writeF zs gs st a v).2.1.length ≤ 1048576 := gate_bound (fun h => by have := okFlash_len h; rw [cycZ_len, cycG_len]; omega)

/-- The call hands back a flash that reads so (its memory may be an argument's). -/
def ReadsFlash (zs : List Int) (gs : List Bool) (st : Int) (w : World) (e : Ending) (w' : World) : Prop :=
  ∃ A n c C m d, e = .returned (.agg #[.slice A n c, .slice C m d, .int .i64 st]) ∧ Hid (zs.length = n) ∧ Hid (gs.length = m) ∧ Hid (IntL w' A zs) ∧ Hid (BoolL w' C gs) ∧ Below w.heap.size w w'

set_option maxRecDepth 100000 in
theorem l03Third (k v : Nat) (w : World) : Calls Try.prog 104 #[.int .i64 k, .int .i64 v] w fun e w' => e = .returned (.int .i64 (if (k : Int) = 85 then cmdS v else 0)) ∧ w = w' := by
  go_enter Try.func104, Try.ntmps104
  go_wp2
  all_goals go_ret
  all_goals (refine ⟨ret_int ?_, rfl⟩)
  all_goals (first | (unfold cmdS; simp_all; done) | simp_all)

theorem nextS_0 (k v : Nat) : nextS 0 k v = if ((k : Int) == 85) && ((v : Int) == 170) then 1 else 0 := by unfold nextS; simp
theorem nextS_4 (k v : Nat) : nextS 4 k v = if ((k : Int) == 85) && ((v : Int) == 170) then 5 else 0 := by unfold nextS; simp
theorem nextS_1 (k v : Nat) : nextS 1 k v = if ((k : Int) == 42) && ((v : Int) == 85) then 2 else 0 := by unfold nextS; simp
theorem nextS_5 (k v : Nat) : nextS 5 k v = if ((k : Int) == 42) && ((v : Int) == 85) then 6 else 0 := by unfold nextS; simp
theorem nextS_2 (k v : Nat) : nextS 2 k v = if (k : Int) = 85 then cmdS v else 0 := by unfold nextS; simp
theorem nextS_7 (k v : Nat) : nextS 7 k v = if ((v : Int) != 240) then 7 else 0 := by
  unfold nextS
  by_cases h : (v : Int) = 240 <;> simp [h]
theorem nextS_3 (k v : Nat) : nextS 3 k v = 0 := by unfold nextS; simp
theorem nextS_6 (k v : Nat) : nextS 6 k v = 0 := by unfold nextS; simp
theorem nextS_8 (k v : Nat) : nextS 8 k v = 0 := by unfold nextS; simp
theorem cyc_plain (zs : List Int) (gs : List Bool) (st : Int) (k v : Nat) (h3 : st ≠ 3) (h6 : st ≠ 6) (h8 : st ≠ 8) : cycZ zs gs st k v = zs ∧ cycG gs st k = gs :=
  ⟨by unfold cycZ; rw [if_neg h3, if_neg h6], by unfold cycG; rw [if_neg h8]⟩

/-- The four tests that every cycle makes. -/
structure Tests (k v : Nat) (b1 b2 b3 b4 : Bool) : Prop where
  t1 : ((k : Int) == 85) = b1
  t2 : ((v : Int) == 170) = b2
  t3 : ((k : Int) == 42) = b3
  t4 : ((v : Int) == 85) = b4

set_option maxRecDepth 100000 in
set_option maxHeartbeats 8000000 in
theorem writePlain (A C : Option Addr) (c d k v : Nat) (st s : Int) (w : World) (b1 b2 b3 b4 : Bool) (T : Tests k v b1 b2 b3 b4)
    (hst : (st = 0 ∧ s = if b1 && b2 then 1 else 0) ∨ (st = 4 ∧ s = if b1 && b2 then 5 else 0) ∨ (st = 1 ∧ s = if b3 && b4 then 2 else 0) ∨ (st = 5 ∧ s = if b3 && b4 then 6 else 0)) :
    Calls Try.prog 87 #[.agg #[.slice A 256 c, .slice C 16 d, .int .i64 st], .int .i64 k, .int .i64 v] w fun e w' => e = .returned (.agg #[.slice A 256 c, .slice C 16 d, .int .i64 s]) ∧ Below w.heap.size w w' := by
  obtain ⟨t1, t2, t3, t4⟩ := T
  rcases hst with ⟨rfl, rfl⟩ | ⟨rfl, rfl⟩ | ⟨rfl, rfl⟩ | ⟨rfl, rfl⟩
  all_goals (
    cases b1 <;> cases b2 <;> cases b3 <;> cases b4 <;> (
      go_enter Try.func87, Try.ntmps87
      go_wp2_with (first | (go_at_call 91; refine (l01Bit _ _).mono ?_; rintro e w' ⟨rfl, rfl⟩))
      refine bodyPost_ret (by simp [results, Try.results87, go_sem]; rfl) rfl ?_
      exact ⟨rfl, bt (alloc_below _ _) (alloc_below _ _)⟩))
end Go.Proofs.Ytdanefhfngmipaa

/- The model's bus cycle in the states that do more: a command, autoselect, programming, protecting, erasing. -/
namespace Go.Proofs.Ytdanefhfngmipaa
open Go.RowKit

set_option maxRecDepth 100000 in
set_option maxHeartbeats 8000000 in
theorem writeCmd (A C : Option Addr) (c d k v : Nat) (s : Int) (w : World) (b1 b2 b3 b4 : Bool) (T : Tests k v b1 b2 b3 b4) (hs : (if (k : Int) = 85 then cmdS v else 0) = s) :
    Calls Try.prog 87 #[.agg #[.slice A 256 c, .slice C 16 d, .int .i64 2], .int .i64 k, .int .i64 v] w fun e w' => e = .returned (.agg #[.slice A 256 c, .slice C 16 d, .int .i64 s]) ∧ Below w.heap.size w w' := by
  obtain ⟨t1, t2, t3, t4⟩ := T
  have h3 : ∀ W, Calls Try.prog 104 #[.int .i64 k, .int .i64 v] W fun e w' => e = .returned (.int .i64 s) ∧ W = w' := fun W => by have := l03Third k v W; rw [hs] at this; exact this
  have H3 := Lib.hid h3
  clear h3 hs
  cases b1 <;> cases b3 <;> (
    go_enter Try.func87, Try.ntmps87
    go_wp2_with (first | (go_at_call 104; refine (H3.out _).mono ?_; rintro e w' ⟨rfl, rfl⟩))
    refine bodyPost_ret (by simp [results, Try.results87, go_sem]; rfl) rfl ?_
    exact ⟨rfl, bt (alloc_below _ _) (alloc_below _ _)⟩)

set_option maxRecDepth 100000 in
set_option maxHeartbeats 8000000 in
theorem writeAuto (A C : Option Addr) (c d k v : Nat) (w : World) (b1 b2 b3 b4 b5 : Bool) (T : Tests k v b1 b2 b3 b4) (t5 : ((v : Int) != 240) = b5) :
    Calls Try.prog 87 #[.agg #[.slice A 256 c, .slice C 16 d, .int .i64 7], .int .i64 k, .int .i64 v] w fun e w' => e = .returned (.agg #[.slice A 256 c, .slice C 16 d, .int .i64 (if b5 then 7 else 0)]) ∧ Below w.heap.size w w' := by
  obtain ⟨t1, t2, t3, t4⟩ := T
  cases b1 <;> cases b3 <;> cases b5 <;> (
    go_enter Try.func87, Try.ntmps87
    go_wp2_with (first | (go_at_call 91; refine (l01Bit _ _).mono ?_; rintro e w' ⟨rfl, rfl⟩))
    refine bodyPost_ret (by simp [results, Try.results87, go_sem]; rfl) rfl ?_
    exact ⟨rfl, bt (alloc_below _ _) (alloc_below _ _)⟩)

/-- The two boxes that a bus cycle opens, the state being put to reading. -/
theorem opened (A C : Option Addr) (c d : Nat) (w : World) :
    ∃ W, W = ((w.alloc (.cells #[.slice A 256 c, .slice C 16 d, .int .i64 0] 26)).alloc (.cells #[.slice none 0 0, .slice none 0 0, .int .i64 0] 26)) ∧ Below w.heap.size w W ∧ Box W w.heap.size 26 #[.slice A 256 c, .slice C 16 d, .int .i64 0] ∧ Box W (w.heap.size + 1) 26 #[.slice none 0 0, .slice none 0 0, .int .i64 0] := by
  have X0 := (Box.new w 26 #[.slice A 256 c, .slice C 16 d, .int .i64 0]).alloc (.cells #[.slice none 0 0, .slice none 0 0, .int .i64 0] 26)
  have Y0 := Box.new (w.alloc (.cells #[.slice A 256 c, .slice C 16 d, .int .i64 0] 26)) 26 #[.slice none 0 0, .slice none 0 0, .int .i64 0]
  have hs : (w.alloc (.cells #[.slice A 256 c, .slice C 16 d, .int .i64 0] 26)).heap.size = w.heap.size + 1 := by simp
  rw [hs] at Y0
  exact ⟨_, rfl, bt (alloc_below _ _) (alloc_below _ _), X0, Y0⟩

def FlashAt (w : World) (A C : Option Addr) (zs : List Int) (gs : List Bool) : Prop := (zs.length = 256 ∧ gs.length = 16) ∧ IntL w A zs ∧ BoolL w C gs

set_option maxRecDepth 100000 in
set_option maxHeartbeats 8000000 in
theorem writeProgram (A C : Option Addr) (c d k v : Nat) (zs : List Int) (gs : List Bool) (w : World) (b1 b2 b3 b4 : Bool) (T : Tests k v b1 b2 b3 b4) (hk : k < 256) (hv : v < 256) (hz : ∀ z ∈ zs, 0 ≤ z ∧ z ≤ 255) (h : FlashAt w A C zs gs) :
    Calls Try.prog 87 #[.agg #[.slice A 256 c, .slice C 16 d, .int .i64 3], .int .i64 k, .int .i64 v] w (GivesFlash (progL zs gs k v) gs 0 w) := by
  obtain ⟨W, hW, hb, X, Y⟩ := opened A C c d w
  obtain ⟨t1, t2, t3, t4⟩ := T
  have HP := Lib.hid (l03Program A C 256 c 16 d k v 0 zs gs W h.1.1 h.1.2 rfl rfl hk hv hz (h.2.1.below hb) (h.2.2.below hb))
  have HY := Lib.hid (And.intro hb Y)
  have HW := Lib.hid hW
  generalize progL zs gs k v = zr at HP ⊢
  clear h hz hk hv hb X Y hW
  cases b1 <;> cases b3 <;> (
    go_enter Try.func87, Try.ntmps87
    go_wp2_with fail
    rw [← HW.out]
    refine HP.out.mono ?_
    rintro e w3 ⟨A3, n3, c3, C3, m3, d3, rfl, L3, M3, S3, R3, hb3⟩
    have Y3 := HY.out.2.step hb3
    have s0 := Y3.cell 0 rfl
    have s1 := Y3.cell 1 rfl
    have s2 := Y3.cell 2 rfl
    have s0z := Y3.frozen 0
    have s1z := Y3.frozen 1
    have s2z := Y3.frozen 2
    have HY3 := Lib.hid Y3
    clear Y3
    go_wp2
    refine bodyPost_ret (v := .agg #[.slice A3 n3 c3, .slice C3 m3 d3, .int .i64 0]) (by simp [results, Try.results87, go_sem, s0, s1, s2]) rfl ?_
    exact ⟨_, _, _, _, _, _, rfl, L3, M3, Lib.hid ((S3.out.far3 HY3.out _ _ _).wideB HY.out.1.size (by rw [size3]; exact Nat.le_refl _)), Lib.hid ((R3.out.far3 HY3.out _ _ _).wide HY.out.1.size (by rw [size3]; exact Nat.le_refl _)), below3 (bt HY.out.1 hb3) (by omega) _ _ _⟩)

set_option maxRecDepth 100000 in
set_option maxHeartbeats 8000000 in
theorem writeGuard (A C : Option Addr) (c d k v : Nat) (zs : List Int) (gs : List Bool) (w : World) (b1 b2 b3 b4 : Bool) (T : Tests k v b1 b2 b3 b4) (hk : k < 256) (h : FlashAt w A C zs gs) :
    Calls Try.prog 87 #[.agg #[.slice A 256 c, .slice C 16 d, .int .i64 8], .int .i64 k, .int .i64 v] w (GivesFlash zs (gs.set (k / 16) true) 0 w) := by
  obtain ⟨W, hW, hb, X, Y⟩ := opened A C c d w
  obtain ⟨t1, t2, t3, t4⟩ := T
  have hP := l03Guard A C 256 c 16 d (k / 16) 0 zs gs W h.1.1 h.1.2 rfl rfl (by omega) (h.2.1.below hb) (h.2.2.below hb)
  rw [show ((k / 16 : Nat) : Int) = (k : Int) / 16 from by omega] at hP
  have HP := Lib.hid hP
  clear hP
  have HY := Lib.hid (And.intro hb Y)
  have HW := Lib.hid hW
  generalize gs.set (k / 16) true = gr at HP ⊢
  have hki : (k : Int) < 256 := by omega
  clear h hb X Y hW
  cases b1 <;> cases b3 <;> (
    go_enter Try.func87, Try.ntmps87
    go_wp2_with fail
    rw [← HW.out]
    refine HP.out.mono ?_
    rintro e w3 ⟨A3, n3, c3, C3, m3, d3, rfl, L3, M3, S3, R3, hb3⟩
    have Y3 := HY.out.2.step hb3
    have s0 := Y3.cell 0 rfl
    have s1 := Y3.cell 1 rfl
    have s2 := Y3.cell 2 rfl
    have s0z := Y3.frozen 0
    have s1z := Y3.frozen 1
    have s2z := Y3.frozen 2
    have HY3 := Lib.hid Y3
    clear Y3
    go_wp2
    refine bodyPost_ret (v := .agg #[.slice A3 n3 c3, .slice C3 m3 d3, .int .i64 0]) (by simp [results, Try.results87, go_sem, s0, s1, s2]) rfl ?_
    exact ⟨_, _, _, _, _, _, rfl, L3, M3, Lib.hid ((S3.out.far3 HY3.out _ _ _).wideB HY.out.1.size (by rw [size3]; exact Nat.le_refl _)), Lib.hid ((R3.out.far3 HY3.out _ _ _).wide HY.out.1.size (by rw [size3]; exact Nat.le_refl _)), below3 (bt HY.out.1 hb3) (by omega) _ _ _⟩)
end Go.Proofs.Ytdanefhfngmipaa

/- The model's bus cycle in the state of erasing. -/
namespace Go.Proofs.Ytdanefhfngmipaa
open Go.RowKit

set_option maxRecDepth 100000 in
set_option maxHeartbeats 8000000 in
theorem writeErase (A C : Option Addr) (c d k : Nat) (zs : List Int) (gs : List Bool) (w : World) (b1 b2 b3 b4 : Bool) (T : Tests k 48 b1 b2 b3 b4) (hk : k < 256) (h : FlashAt w A C zs gs) :
    Calls Try.prog 87 #[.agg #[.slice A 256 c, .slice C 16 d, .int .i64 6], .int .i64 k, .int .i64 48] w (GivesFlash (eraseL zs gs (k / 16)) gs 0 w) := by
  obtain ⟨W, hW, hb, X, Y⟩ := opened A C c d w
  obtain ⟨t1, t2, t3, t4⟩ := T
  have hP := l03Erase A C 256 c 16 d (k / 16) 0 zs gs W h.1.1 h.1.2 rfl rfl (by omega) (h.2.1.below hb) (h.2.2.below hb)
  rw [show ((k / 16 : Nat) : Int) = (k : Int) / 16 from by omega] at hP
  have HP := Lib.hid hP
  clear hP
  have HY := Lib.hid (And.intro hb Y)
  have HW := Lib.hid hW
  generalize eraseL zs gs (k / 16) = zr at HP ⊢
  have hki : (k : Int) < 256 := by omega
  clear h hb X Y hW t2 t4
  cases b1 <;> cases b3 <;> (
    go_enter Try.func87, Try.ntmps87
    go_wp2_with fail
    rw [← HW.out]
    refine HP.out.mono ?_
    rintro e w3 ⟨A3, n3, c3, C3, m3, d3, rfl, L3, M3, S3, R3, hb3⟩
    have Y3 := HY.out.2.step hb3
    have s0 := Y3.cell 0 rfl
    have s1 := Y3.cell 1 rfl
    have s2 := Y3.cell 2 rfl
    have s0z := Y3.frozen 0
    have s1z := Y3.frozen 1
    have s2z := Y3.frozen 2
    have HY3 := Lib.hid Y3
    clear Y3
    go_wp2
    refine bodyPost_ret (v := .agg #[.slice A3 n3 c3, .slice C3 m3 d3, .int .i64 0]) (by simp [results, Try.results87, go_sem, s0, s1, s2]) rfl ?_
    exact ⟨_, _, _, _, _, _, rfl, L3, M3, Lib.hid ((S3.out.far3 HY3.out _ _ _).wideB HY.out.1.size (by rw [size3]; exact Nat.le_refl _)), Lib.hid ((R3.out.far3 HY3.out _ _ _).wide HY.out.1.size (by rw [size3]; exact Nat.le_refl _)), below3 (bt HY.out.1 hb3) (by omega) _ _ _⟩)

set_option maxRecDepth 100000 in
set_option maxHeartbeats 8000000 in
theorem writeNone (A C : Option Addr) (c d k v : Nat) (w : World) (b1 b2 b3 b4 : Bool) (T : Tests k v b1 b2 b3 b4) (t5 : ((v : Int) == 48) = false) (h6 : ((v : Int) == 16) = false ∨ (((v : Int) == 16) = true ∧ b1 = false)) :
    Calls Try.prog 87 #[.agg #[.slice A 256 c, .slice C 16 d, .int .i64 6], .int .i64 k, .int .i64 v] w fun e w' => e = .returned (.agg #[.slice A 256 c, .slice C 16 d, .int .i64 0]) ∧ Below w.heap.size w w' := by
  obtain ⟨t1, t2, t3, t4⟩ := T
  rcases h6 with t6 | ⟨t6, rfl⟩
  · cases b1 <;> cases b3 <;> (
      go_enter Try.func87, Try.ntmps87
      go_wp2
      refine bodyPost_ret (by simp [results, Try.results87, go_sem]; rfl) rfl ?_
      exact ⟨rfl, bt (alloc_below _ _) (alloc_below _ _)⟩)
  · cases b3 <;> (
      go_enter Try.func87, Try.ntmps87
      go_wp2
      refine bodyPost_ret (by simp [results, Try.results87, go_sem]; rfl) rfl ?_
      exact ⟨rfl, bt (alloc_below _ _) (alloc_below _ _)⟩)

set_option maxRecDepth 100000 in
set_option maxHeartbeats 8000000 in
theorem writeAll (A C : Option Addr) (c d : Nat) (zs : List Int) (gs : List Bool) (w : World) (h : FlashAt w A C zs gs) :
    Calls Try.prog 87 #[.agg #[.slice A 256 c, .slice C 16 d, .int .i64 6], .int .i64 85, .int .i64 16] w (GivesFlash (eraseN zs gs 16) gs 0 w) := by
  obtain ⟨W, hW, hb, X, Y⟩ := opened A C c d w
  have HEr := Lib.hid (fun j (hj : j < 16) A n c C m d zs' gs' W (h1 : zs'.length = 256) (h2 : gs'.length = 16) (e1 : n = 256) (e2 : m = 16) => l03Erase A C n c m d j 0 zs' gs' W (h1.trans e1.symm) (h2.trans e2.symm) e1 e2 hj)
  have HL := Lib.hid h.1
  have HI : Hid (IntL W A zs ∧ BoolL W C gs) := Lib.hid ⟨h.2.1.below hb, h.2.2.below hb⟩
  have HX := Lib.hid (And.intro X Y)
  have HW := Lib.hid hW
  clear h X Y hW
  go_enter Try.func87, Try.ntmps87
  go_wp2
  rw [← HW.out]
  go_loopw [10] (fun i wr => ∃ j : Nat, j ≤ 16 ∧ i = .int .i64 j ∧ Below w.heap.size w wr ∧ ∃ A1 c1 C1 d1, Hid (Box wr w.heap.size 26 #[.slice A1 256 c1, .slice C1 16 d1, .int .i64 0]) ∧ Hid (Box wr (w.heap.size + 1) 26 #[.slice none 0 0, .slice none 0 0, .int .i64 0]) ∧ Hid (IntL wr A1 (eraseN zs gs j)) ∧ Hid (BoolL wr C1 gs) ∧ Hid (0 < j → OwnI wr w.heap.size wr.heap.size A1 (eraseN zs gs j) ∧ OwnB wr w.heap.size wr.heap.size C1 gs)) (fun i _ => 16 - (intOf i).toNat)
  case atStart => exact ⟨0, by omega, rfl, hb, A, c, C, d, Lib.hid HX.out.1, Lib.hid HX.out.2, Lib.hid HI.out.1, Lib.hid HI.out.2, Lib.hid (fun h => absurd h (by omega))⟩
  case round =>
    clear HX HW hb HI
    obtain ⟨j, hj, rfl, hbw, A1, c1, C1, d1, X, Y, I, B, O⟩ := hrel
    have x0 := X.out.cell 0 rfl
    have x1 := X.out.cell 1 rfl
    have x2 := X.out.cell 2 rfl
    by_cases hlt : j < 16
    · have HE := Lib.hid (HEr.out j hlt A1 256 c1 C1 16 d1 (eraseN zs gs j) gs wr (by rw [eraseN_len]; exact HL.out.1) HL.out.2 rfl rfl I.out B.out)
      have hi : (j : Int) < 16 := by omega
      clear O I B HEr
      go_wp2_with fail
      refine HE.out.mono ?_
      rintro e w3 ⟨A3, n3, c3, C3, m3, d3, rfl, L3, M3, S3, R3, hb3⟩
      obtain rfl : n3 = 256 := by have := L3.out; rw [eraseL_len, eraseN_len] at this; have := HL.out; omega
      obtain rfl : m3 = 16 := by have := M3.out; have := HL.out; omega
      have X3 := X.out.step hb3
      have s0 := X3.cell 0 rfl
      have s1 := X3.cell 1 rfl
      have s2 := X3.cell 2 rfl
      have s0z := X3.frozen 0
      have s1z := X3.frozen 1
      have s2z := X3.frozen 2
      have HX3 := Lib.hid X3
      have hbs := hbw.size
      have HS : Hid (OwnI (((w3.setCell ⟨w.heap.size, 0, none⟩ (.slice A3 256 c3)).setCell ⟨w.heap.size, 1, none⟩ (.slice C3 16 d3)).setCell ⟨w.heap.size, 2, none⟩ (.int .i64 0)) w.heap.size (((w3.setCell ⟨w.heap.size, 0, none⟩ (.slice A3 256 c3)).setCell ⟨w.heap.size, 1, none⟩ (.slice C3 16 d3)).setCell ⟨w.heap.size, 2, none⟩ (.int .i64 0)).heap.size A3 (eraseN zs gs (j + 1))) := Lib.hid ((S3.out.far3 X3 _ _ _).wideB hbs (by rw [size3]; exact Nat.le_refl _))
      have HR : Hid (OwnB (((w3.setCell ⟨w.heap.size, 0, none⟩ (.slice A3 256 c3)).setCell ⟨w.heap.size, 1, none⟩ (.slice C3 16 d3)).setCell ⟨w.heap.size, 2, none⟩ (.int .i64 0)) w.heap.size (((w3.setCell ⟨w.heap.size, 0, none⟩ (.slice A3 256 c3)).setCell ⟨w.heap.size, 1, none⟩ (.slice C3 16 d3)).setCell ⟨w.heap.size, 2, none⟩ (.int .i64 0)).heap.size C3 gs) := Lib.hid ((R3.out.far3 X3 _ _ _).wide hbs (by rw [size3]; exact Nat.le_refl _))
      have HXn := Lib.hid (X3.flash3 rfl (.slice A3 256 c3) (.slice C3 16 d3) (.int .i64 0))
      have HYn := Lib.hid ((Y.out.step hb3).far3 (show w.heap.size + 1 ≠ w.heap.size by omega) (.slice A3 256 c3) (.slice C3 16 d3) (.int .i64 0))
      have hbn := below3 (bt hbw hb3) (Nat.le_refl _) (.slice A3 256 c3) (.slice C3 16 d3) (.int .i64 0)
      clear X3 X Y x0 x1 x2 S3 R3 L3 M3 hb3 hbw HE
      go_wp2
      go_roundw
      case rel => exact ⟨j + 1, by omega, by go_num, hbn, A3, c3, C3, d3, HXn, HYn, Lib.hid HS.out.reads, Lib.hid HR.out.reads, Lib.hid (fun _ => ⟨HS.out, HR.out⟩)⟩
      case measure => simp [intOf]; omega
    · obtain rfl : j = 16 := by omega
      have s0 := Y.out.cell 0 rfl
      have s1 := Y.out.cell 1 rfl
      have s2 := Y.out.cell 2 rfl
      have s0z := Y.out.frozen 0
      have s1z := Y.out.frozen 1
      have s2z := Y.out.frozen 2
      clear HEr I B
      go_wp2
      refine bodyPost_ret (v := .agg #[.slice A1 256 c1, .slice C1 16 d1, .int .i64 0]) (by simp [results, Try.results87, go_sem, s0, s1, s2]) rfl ?_
      have HO := O.out (by omega)
      exact ⟨_, _, _, _, _, _, rfl, Lib.hid (by rw [eraseN_len]; exact HL.out.1), Lib.hid HL.out.2, Lib.hid ((HO.1.far3 Y.out _ _ _).wideB (Nat.le_refl _) (by rw [size3]; exact Nat.le_refl _)), Lib.hid ((HO.2.far3 Y.out _ _ _).wide (Nat.le_refl _) (by rw [size3]; exact Nat.le_refl _)), below3 hbw (by omega) _ _ _⟩
end Go.Proofs.Ytdanefhfngmipaa

/- The model's l03Write, and BusWrite on both sides. -/
namespace Go.Proofs.Ytdanefhfngmipaa
open Go.RowKit

theorem ReadsFlash.of_gives {zs : List Int} {gs : List Bool} {st : Int} {w : World} {e : Ending} {w' : World} (h : GivesFlash zs gs st w e w') : ReadsFlash zs gs st w e w' := by
  obtain ⟨A, n, c, C, m, d, e1, L, M, S, R, b⟩ := h
  exact ⟨A, n, c, C, m, d, e1, L, M, Lib.hid S.out.reads, Lib.hid R.out.reads, b⟩
theorem ReadsFlash.of_same {A C : Option Addr} {c d : Nat} {zs : List Int} {gs : List Bool} {st : Int} {w : World} {e : Ending} {w' : World} (h : FlashAt w A C zs gs) (q : e = .returned (.agg #[.slice A 256 c, .slice C 16 d, .int .i64 st]) ∧ Below w.heap.size w w') : ReadsFlash zs gs st w e w' :=
  ⟨A, 256, c, C, 16, d, q.1, Lib.hid h.1.1, Lib.hid h.1.2, Lib.hid (h.2.1.below q.2), Lib.hid (h.2.2.below q.2), q.2⟩
theorem tests (k v : Nat) : Tests k v ((k : Int) == 85) ((v : Int) == 170) ((k : Int) == 42) ((v : Int) == 85) := ⟨rfl, rfl, rfl, rfl⟩

/-- A bus cycle hands back a flash of its own, or the bytes and the protection that it was given, with another state. -/
def WritesFlash (A C : Option Addr) (c d : Nat) (zs : List Int) (gs : List Bool) (zs' : List Int) (gs' : List Bool) (st' : Int) (w : World) (e : Ending) (w' : World) : Prop :=
  GivesFlash zs' gs' st' w e w' ∨ (zs' = zs ∧ gs' = gs ∧ e = .returned (.agg #[.slice A 256 c, .slice C 16 d, .int .i64 st']) ∧ Below w.heap.size w w')

set_option maxRecDepth 100000 in
theorem l03Write0 (A C : Option Addr) (c d k v : Nat) (st : Int) (zs : List Int) (gs : List Bool) (w : World) (hk : k < 256) (hv : v < 256) (hs : 0 ≤ st ∧ st ≤ 8) (hz : ∀ z ∈ zs, 0 ≤ z ∧ z ≤ 255) (h : FlashAt w A C zs gs) :
    Calls Try.prog 87 #[.agg #[.slice A 256 c, .slice C 16 d, .int .i64 st], .int .i64 k, .int .i64 v] w (WritesFlash A C c d zs gs (cycZ zs gs st k v) (cycG gs st k) (nextS st k v) w) := by
  have h9 : st = 0 ∨ st = 1 ∨ st = 2 ∨ st = 3 ∨ st = 4 ∨ st = 5 ∨ st = 6 ∨ st = 7 ∨ st = 8 := by omega
  have plain := fun (st : Int) (s : Int) (hq : (st = 0 ∧ s = if ((k : Int) == 85) && ((v : Int) == 170) then 1 else 0) ∨ (st = 4 ∧ s = if ((k : Int) == 85) && ((v : Int) == 170) then 5 else 0) ∨ (st = 1 ∧ s = if ((k : Int) == 42) && ((v : Int) == 85) then 2 else 0) ∨ (st = 5 ∧ s = if ((k : Int) == 42) && ((v : Int) == 85) then 6 else 0)) => writePlain A C c d k v st s w _ _ _ _ (tests k v) hq
  rcases h9 with rfl | rfl | rfl | rfl | rfl | rfl | rfl | rfl | rfl
  · obtain ⟨e1, e2⟩ := cyc_plain zs gs 0 k v (by omega) (by omega) (by omega)
    rw [e1, e2, nextS_0]
    exact (plain 0 _ (.inl ⟨rfl, rfl⟩)).mono fun _ _ q => .inr ⟨rfl, rfl, q⟩
  · obtain ⟨e1, e2⟩ := cyc_plain zs gs 1 k v (by omega) (by omega) (by omega)
    rw [e1, e2, nextS_1]
    exact (plain 1 _ (.inr (.inr (.inl ⟨rfl, rfl⟩)))).mono fun _ _ q => .inr ⟨rfl, rfl, q⟩
  · obtain ⟨e1, e2⟩ := cyc_plain zs gs 2 k v (by omega) (by omega) (by omega)
    rw [e1, e2, nextS_2]
    exact (writeCmd A C c d k v _ w _ _ _ _ (tests k v) rfl).mono fun _ _ q => .inr ⟨rfl, rfl, q⟩
  · rw [nextS_3, show cycZ zs gs 3 k v = progL zs gs k v from by unfold cycZ; rw [if_pos rfl], show cycG gs 3 k = gs from by unfold cycG; rw [if_neg (by omega)]]
    exact (writeProgram A C c d k v zs gs w _ _ _ _ (tests k v) hk hv hz h).mono fun _ _ q => .inl q
  · obtain ⟨e1, e2⟩ := cyc_plain zs gs 4 k v (by omega) (by omega) (by omega)
    rw [e1, e2, nextS_4]
    exact (plain 4 _ (.inr (.inl ⟨rfl, rfl⟩))).mono fun _ _ q => .inr ⟨rfl, rfl, q⟩
  · obtain ⟨e1, e2⟩ := cyc_plain zs gs 5 k v (by omega) (by omega) (by omega)
    rw [e1, e2, nextS_5]
    exact (plain 5 _ (.inr (.inr (.inr ⟨rfl, rfl⟩)))).mono fun _ _ q => .inr ⟨rfl, rfl, q⟩
  · rw [nextS_6, show cycZ zs gs 6 k v = wipeZ zs gs k v from by unfold cycZ; rw [if_neg (by omega), if_pos rfl], show cycG gs 6 k = gs from by unfold cycG; rw [if_neg (by omega)]]
    by_cases h48 : v = 48
    · subst h48
      rw [show wipeZ zs gs k 48 = eraseL zs gs (k / 16) from by unfold wipeZ; rw [if_neg (by omega), if_pos rfl]]
      exact (writeErase A C c d k zs gs w _ _ _ _ (tests k 48) hk h).mono fun _ _ q => .inl q
    · by_cases h16 : v = 16
      · subst h16
        by_cases h85 : k = 85
        · subst h85
          rw [show wipeZ zs gs 85 16 = eraseN zs gs 16 from by unfold wipeZ; rw [if_pos rfl, if_pos rfl]]
          exact (writeAll A C c d zs gs w h).mono fun _ _ q => .inl q
        · rw [show wipeZ zs gs k 16 = zs from by unfold wipeZ; rw [if_pos rfl, if_neg h85]]
          exact (writeNone A C c d k 16 w _ _ _ _ (tests k 16) (by simp) (.inr ⟨by simp, by simp; omega⟩)).mono fun _ _ q => .inr ⟨rfl, rfl, q⟩
      · rw [show wipeZ zs gs k v = zs from by unfold wipeZ; rw [if_neg h16, if_neg h48]]
        exact (writeNone A C c d k v w _ _ _ _ (tests k v) (by simp; omega) (.inl (by simp; omega))).mono fun _ _ q => .inr ⟨rfl, rfl, q⟩
  · obtain ⟨e1, e2⟩ := cyc_plain zs gs 7 k v (by omega) (by omega) (by omega)
    rw [e1, e2, nextS_7]
    exact (writeAuto A C c d k v w _ _ _ _ _ (tests k v) rfl).mono fun _ _ q => .inr ⟨rfl, rfl, q⟩
  · rw [nextS_8, show cycZ zs gs 8 k v = zs from by unfold cycZ; rw [if_neg (by omega), if_neg (by omega)], show cycG gs 8 k = gs.set (k / 16) true from by unfold cycG; rw [if_pos rfl]]
    exact (writeGuard A C c d k v zs gs w _ _ _ _ (tests k v) hk h).mono fun _ _ q => .inl q

set_option maxRecDepth 100000 in
theorem l03Write (A C : Option Addr) (c d k v : Nat) (st : Int) (zs : List Int) (gs : List Bool) (w : World) (hk : k < 256) (hv : v < 256) (hs : 0 ≤ st ∧ st ≤ 8) (hz : ∀ z ∈ zs, 0 ≤ z ∧ z ≤ 255) (h : FlashAt w A C zs gs) :
    Calls Try.prog 87 #[.agg #[.slice A 256 c, .slice C 16 d, .int .i64 st], .int .i64 k, .int .i64 v] w (ReadsFlash (cycZ zs gs st k v) (cycG gs st k) (nextS st k v) w) := by
  refine (l03Write0 A C c d k v st zs gs w hk hv hs hz h).mono ?_
  rintro e w' (q | ⟨q1, q2, q3⟩)
  · exact .of_gives q
  · rw [q1, q2]; exact .of_same h q3

end Go.Proofs.Ytdanefhfngmipaa

/- NewFlash on both sides. -/
namespace Go.Proofs.Ytdanefhfngmipaa
open Go.RowKit

def newZ : List Int := List.replicate 256 255
theorem newZ_len : newZ.length = 256 := List.length_replicate
theorem erase_all : eraseN zZ zG 16 = newZ := by decide +kernel

set_option maxRecDepth 100000 in
set_option maxHeartbeats 4000000 in
theorem implNewFlash (w : World) : Calls Try.prog 71 #[] w (GivesFlash newZ zG 0 w) := by
  obtain ⟨zc, hzc⟩ : ∃ zc, zc = zC.toArray := ⟨_, rfl⟩
  obtain ⟨W0, hW0⟩ : ∃ W0, W0 = (w.alloc (.cells #[.slice none 0 0, .slice none 0 0, .int .i64 0] 26)) := ⟨_, rfl⟩
  have hs0 : W0.heap.size = w.heap.size + 1 := by rw [hW0]; simp
  have Y0 : Box W0 w.heap.size 26 #[.slice none 0 0, .slice none 0 0, .int .i64 0] := by rw [hW0]; exact Box.new _ _ _
  have hb0 : Below w.heap.size w W0 := by rw [hW0]; exact alloc_below _ _
  have X1 : BC (W0.alloc (.cells zc 86)) (w.heap.size + 1) zZ zG 0 := by have := BC.newZ W0; rw [hs0, ← hzc] at this; exact this
  have Y1 := Y0.alloc (.cells zc 86)
  have hb1 := bt hb0 (alloc_below W0 (.cells zc 86))
  have HIn := Lib.hid infoCx
  rw [← hzc] at HIn
  have HEr := Lib.hid (fun b (hb : b < 16) zs' (hz' : zs'.length = 256) W => chipErase b zs' zG 0 W hz' zG_len hb)
  have HX := Lib.hid (And.intro X1 (And.intro Y1 hb1))
  have HW0 := Lib.hid hW0
  have HS0 := Lib.hid hs0
  clear X1 Y1 hb1 Y0 hb0 hzc hW0 hs0
  go_enter Try.func71, Try.ntmps71
  go_wp2_with (first
    | (rw [← HW0.out]; with_reducible refine wpList_alloc_at rfl 86 rfl zc HIn.out (w.heap.size + 1) HS0.out ?_))
  go_loopw [3] (fun i wr => ∃ j : Nat, j ≤ 16 ∧ i = .int .i64 j ∧ Below w.heap.size w wr ∧ Hid (BC wr (w.heap.size + 1) (eraseN zZ zG j) zG 0) ∧ Hid (Box wr w.heap.size 26 #[.slice none 0 0, .slice none 0 0, .int .i64 0])) (fun i _ => 16 - (intOf i).toNat)
  case atStart => exact ⟨0, by omega, rfl, HX.out.2.2, Lib.hid HX.out.1, Lib.hid HX.out.2.1⟩
  case round =>
    clear HX HW0 HS0
    obtain ⟨j, hj, rfl, hbw, X, Y⟩ := hrel
    by_cases hlt : j < 16
    · have HLd := Lib.hid (X.out.loads (by rw [eraseN_len]; exact zZ_len) zG_len)
      have HE : Hid (Calls Try.prog 95 #[.agg (chipC (eraseN zZ zG j) zG 0).toArray, .int .i64 j] wr fun e w' => e = .returned (.agg (chipC (eraseN zZ zG (j + 1)) zG 0).toArray) ∧ Below wr.heap.size wr w') := Lib.hid (HEr.out j hlt (eraseN zZ zG j) (by rw [eraseN_len]; exact zZ_len) wr)
      have HSt := Lib.hid (fun w' (hb : Below wr.heap.size wr w') => (X.out.step hb).stores (zs' := eraseN zZ zG (j + 1)) (gs' := zG) (st' := 0) (by rw [eraseN_len]; exact zZ_len) zG_len (by rw [eraseN_len]; exact zZ_len) zG_len)
      have HXn := Lib.hid (fun w' (hb : Below wr.heap.size wr w') => X.out.again (zs' := eraseN zZ zG (j + 1)) (gs' := zG) (st' := 0) hb (by rw [eraseN_len, eraseN_len]) rfl)
      have HYn := Lib.hid (fun w' (hb : Below wr.heap.size wr w') cs => setCells_far (Y.out.step hb) (show w.heap.size ≠ w.heap.size + 1 by omega) 0 cs)
      generalize hca : chipC (eraseN zZ zG j) zG 0 = ca at HLd HE
      generalize hcb : chipC (eraseN zZ zG (j + 1)) zG 0 = cb at HE HSt HXn
      have hi : (j : Int) < 16 := by omega
      clear X Y hca hcb
      go_wp2_with (first
        | (with_reducible refine wpList_load_mid rfl 86 (.tmp 1) rfl (w.heap.size + 1) 0 rfl ca _ HLd.out.range Try.underlying86 rfl HLd.out.size ?_))
      refine HE.out.mono ?_
      rintro e w2 ⟨rfl, hb2⟩
      have HS := Lib.hid (HSt.out w2 hb2)
      go_wp2_with (first
        | (with_reducible refine wpList_store_mid rfl 86 (.tmp 1) (.tmp 8) rfl (w.heap.size + 1) 0 cb.toArray rfl rfl HS.out.room HS.out.size HS.out.one ?_))
      go_roundw
      case rel => exact ⟨j + 1, by omega, by go_num, below_setCellsC (bt hbw hb2) (by omega) 0 cb, Lib.hid (HXn.out w2 hb2), Lib.hid (HYn.out w2 hb2 cb)⟩
      case measure => simp [intOf]; omega
    · obtain rfl : j = 16 := by omega
      have HX : Hid (BC wr (w.heap.size + 1) newZ zG 0) := Lib.hid (by have := X.out; rwa [erase_all] at this)
      have HLd := Lib.hid (HX.out.loads newZ_len zG_len)
      have HF := Lib.hid (chipFlash newZ zG 0 wr newZ_len zG_len (by intro z hz; have := List.eq_of_mem_replicate hz; omega))
      generalize hca : chipC newZ zG 0 = ca at HLd HF
      clear hca X HEr HIn
      go_wp2_with (first
        | (with_reducible refine wpList_load_mid rfl 86 (.tmp 1) rfl (w.heap.size + 1) 0 rfl ca _ HLd.out.range Try.underlying86 rfl HLd.out.size ?_))
      refine HF.out.mono ?_
      rintro e w3 ⟨A3, n3, c3, C3, m3, d3, rfl, L3, M3, S3, R3, hb3⟩
      have Y3 := Y.out.step hb3
      have s0 := Y3.cell 0 rfl
      have s1 := Y3.cell 1 rfl
      have s2 := Y3.cell 2 rfl
      have s0z := Y3.frozen 0
      have s1z := Y3.frozen 1
      have s2z := Y3.frozen 2
      have HY3 := Lib.hid Y3
      clear Y3
      go_wp2
      refine bodyPost_ret (v := .agg #[.slice A3 n3 c3, .slice C3 m3 d3, .int .i64 0]) (by simp [results, Try.results71, go_sem, s0, s1, s2]) rfl ?_
      exact ⟨_, _, _, _, _, _, rfl, L3, M3, Lib.hid ((S3.out.far3 HY3.out _ _ _).wideB hbw.size (by rw [size3]; exact Nat.le_refl _)), Lib.hid ((R3.out.far3 HY3.out _ _ _).wide hbw.size (by rw [size3]; exact Nat.le_refl _)), below3 (bt hbw hb3) (by omega) _ _ _⟩

/-- The model's new flash: the four blocks that it starts from. -/
theorem four_new (w : World) : ∃ W, W = ((((w.alloc (.cells #[.slice none 0 0, .slice none 0 0, .int .i64 0] 26)).alloc (.cells #[] 3)).alloc (.cells (madeCells #[.bool false] 16) 4)).alloc (.cells #[.slice (some ⟨w.heap.size + 1, 0, none⟩) 0 0, .slice (some ⟨w.heap.size + 2, 0, none⟩) 16 16, .int .i64 0] 26)) ∧ Below w.heap.size w W ∧
    Box W w.heap.size 26 #[.slice none 0 0, .slice none 0 0, .int .i64 0] ∧ Box W (w.heap.size + 1) 3 #[] ∧ Box W (w.heap.size + 2) 4 (madeCells #[.bool false] 16) ∧ Box W (w.heap.size + 3) 26 #[.slice (some ⟨w.heap.size + 1, 0, none⟩) 0 0, .slice (some ⟨w.heap.size + 2, 0, none⟩) 16 16, .int .i64 0] ∧ W.heap.size = w.heap.size + 4 := by
  obtain ⟨W1, h1⟩ : ∃ W1, W1 = w.alloc (.cells #[.slice none 0 0, .slice none 0 0, .int .i64 0] 26) := ⟨_, rfl⟩
  have s1 : W1.heap.size = w.heap.size + 1 := by rw [h1]; simp
  have b1 : Box W1 w.heap.size 26 #[.slice none 0 0, .slice none 0 0, .int .i64 0] := by rw [h1]; exact Box.new _ _ _
  have k1 : Below w.heap.size w W1 := by rw [h1]; exact alloc_below _ _
  rw [← h1]; clear h1
  obtain ⟨W2, h2⟩ : ∃ W2, W2 = W1.alloc (.cells #[] 3) := ⟨_, rfl⟩
  have s2 : W2.heap.size = w.heap.size + 2 := by rw [h2]; simp [s1]
  have b2 : Box W2 (w.heap.size + 1) 3 #[] := by rw [h2, ← s1]; exact Box.new _ _ _
  have k2 : Below W1.heap.size W1 W2 := by rw [h2]; exact alloc_below _ _
  rw [← h2]; clear h2
  obtain ⟨W3, h3⟩ : ∃ W3, W3 = W2.alloc (.cells (madeCells #[.bool false] 16) 4) := ⟨_, rfl⟩
  have s3 : W3.heap.size = w.heap.size + 3 := by rw [h3]; simp [s2]
  have b3 : Box W3 (w.heap.size + 2) 4 (madeCells #[.bool false] 16) := by rw [h3, ← s2]; exact Box.new _ _ _
  have k3 : Below W2.heap.size W2 W3 := by rw [h3]; exact alloc_below _ _
  rw [← h3]; clear h3
  refine ⟨_, rfl, bt (bt (bt k1 k2) k3) (alloc_below _ _), ((b1.step k2).step k3).alloc _, (b2.step k3).alloc _, b3.alloc _, ?_, by simp [s3]⟩
  rw [← s3]; exact Box.new _ _ _

set_option maxRecDepth 100000 in
set_option maxHeartbeats 4000000 in
theorem specNewFlash (w : World) : Calls Try.prog 94 #[] w (GivesFlash newZ zG 0 w) := by
  obtain ⟨W, hW, hb, b0, b1, b2, b3, hs⟩ := four_new w
  have hmkB : ∀ W : World, (Instr.makeSlice 24 (.int .i64 16) (.int .i64 16)).run Try.prog W = .ok (.slice (some ⟨W.heap.size, 0, none⟩) 16 16) (W.alloc (.cells (madeCells #[.bool false] 16) 4)) := fun W => run_make_row' (P := Try.prog) 24 4 (.bool false) 1 Try.underlying24 infoB rfl .i64 .i64 16 (by omega) (by omega) W
  have HB := Lib.hid (And.intro hb (And.intro b0 (And.intro b1 (And.intro b2 (And.intro b3 hs)))))
  have HW := Lib.hid hW
  clear hb b0 b1 b2 b3 hs hW
  generalize hmc : madeCells #[.bool false] 16 = mc at hmkB HB HW
  have HMc := Lib.hid hmc
  clear hmc
  go_enter Try.func94, Try.ntmps94
  go_wp2
  rw [← HW.out]
  clear hmkB HW
  go_loopw [2] (fun i wr => ∃ (j : Nat) (A : Option Addr) (c : Nat), j ≤ 256 ∧ i = .int .i64 j ∧ Below w.heap.size w wr ∧ Hid (Box wr w.heap.size 26 #[.slice none 0 0, .slice none 0 0, .int .i64 0]) ∧ Hid (Box wr (w.heap.size + 2) 4 mc) ∧ Hid (Box wr (w.heap.size + 3) 26 #[.slice A j c, .slice (some ⟨w.heap.size + 2, 0, none⟩) 16 16, .int .i64 0]) ∧ Hid (GroI wr (w.heap.size + 1) (.slice A j c) (List.replicate j 255)) ∧ Hid (w.heap.size + 4 ≤ wr.heap.size)) (fun i _ => 256 - (intOf i).toNat)
  case atStart => exact ⟨0, some ⟨w.heap.size + 1, 0, none⟩, 0, by omega, rfl, HB.out.1, Lib.hid HB.out.2.1, Lib.hid HB.out.2.2.2.1, Lib.hid HB.out.2.2.2.2.1, Lib.hid (rowv_empty (Nat.le_refl _) HB.out.2.2.1), Lib.hid (by rw [HB.out.2.2.2.2.2]; exact Nat.le_refl _)⟩
  case round =>
    clear HB
    obtain ⟨j, A, c, hj, rfl, hbw, Y, B, X, G, Z⟩ := hrel
    have x0 := X.out.cell 0 rfl
    have x1 := X.out.cell 1 rfl
    have x2 := X.out.cell 2 rfl
    have x0z := X.out.frozen 0
    by_cases hlt : j < 256
    · have HRk : Hid (wr.ownsRow (w.heap.size + 1) 3 1 (.slice A j c) j ((List.replicate j (255 : Int)).map (Value.int .i64))) := Lib.hid (by have := G.out; unfold GroI at this; rwa [List.length_replicate] at this)
      have HBa : Hid (Below wr.heap.size wr (wr.alloc (.cells #[.int .i64 255] 3))) := Lib.hid (alloc_below _ _)
      have HOw := Lib.hid (rowv_below HRk.out HBa.out)
      have HNw : Hid (∀ i u, [Value.int .i64 255][i]? = some u → (wr.alloc (.cells #[.int .i64 255] 3)).cell? ⟨wr.heap.size, i, none⟩ = some u) := Lib.hid (fun i u hi => by
        match i, hi with
        | 0, hi => simp at hi; subst hi; exact (Box.new wr 3 #[.int .i64 255]).cell 0 rfl)
      have HRep : Hid (List.replicate (j + 1) (255 : Int) = List.replicate j 255 ++ [255]) := Lib.hid List.replicate_succ'
      have hi : (j : Int) < 256 := by omega
      generalize hfl : List.replicate j (255 : Int) = fl at HRk HOw HRep
      have HLl : Hid (fl.length = j) := Lib.hid (by rw [← hfl, List.length_replicate])
      clear hfl G
      go_wp2_with (at_builtin; refine wpList_app_one rfl (.tmp 11) (.tmp 12) 23 3 rfl (.int .i64 0) 1 8 elemInt Try.underlying23 (w.heap.size + 1) (.slice A j c) j (fl.map (Value.int .i64)) rfl ?hown wr.heap.size 1 rfl [.int .i64 255] rfl ?hnews ?hone ?h63 ?hby ?hbase ?_)
      case hown => exact HOw.out
      case hnews => exact HNw.out
      case hone => intro u hu; simp at hu; subst hu; rfl
      case h63 => unfold maxLen; omega
      case hby => omega
      case hbase => have := Z.out; simp; omega
      intro A2 c2 w2 hR2 hc2 hg2 hb2
      have B2 := Lib.hid ((B.out.step HBa.out).grown HOw.out (by decide) hg2)
      have X2 := Lib.hid ((X.out.step HBa.out).grown HOw.out (by decide) hg2)
      have Y2 := Lib.hid ((Y.out.step HBa.out).below hb2 (by omega))
      have hbz : Below w.heap.size w w2 := (bt hbw HBa.out).trans (hb2.mono (by omega))
      have Z2 : Hid (w.heap.size + 4 ≤ w2.heap.size) := Lib.hid (by have := Z.out; have := HBa.out.size; have := hb2.size; omega)
      have u0 := X2.out.cell 0 rfl
      have u0z := X2.out.frozen 0
      have HG2 := Lib.hid (rowv_setBox hR2 X2.out (by decide) 0 (.slice A2 (j + 1) c2))
      clear hR2 hc2 hg2 hb2 hbw x0 x1 x2 x0z B X Y Z HOw HRk HNw HBa
      go_wp2
      go_roundw
      case rel =>
        refine ⟨j + 1, A2, c2, by omega, by go_num, hbz.setCell (p := ⟨w.heap.size + 3, 0, none⟩) (by show w.heap.size ≤ w.heap.size + 3; omega) _, Lib.hid (Y2.out.far (p := ⟨w.heap.size + 3, 0, none⟩) (by show w.heap.size ≠ w.heap.size + 3; omega) _), Lib.hid (B2.out.far (p := ⟨w.heap.size + 3, 0, none⟩) (by show w.heap.size + 2 ≠ w.heap.size + 3; omega) _), Lib.hid (X2.out.set 0 _), Lib.hid ?_, Lib.hid (by simpa [World.setCell] using Z2.out)⟩
        unfold GroI; rw [HRep.out, List.length_append, HLl.out, List.map_append]; exact HG2.out
      case measure => simp [intOf]; omega
    · obtain rfl : j = 256 := by omega
      have s0 := Y.out.cell 0 rfl
      have s1 := Y.out.cell 1 rfl
      have s2 := Y.out.cell 2 rfl
      have s0z := Y.out.frozen 0
      have s1z := Y.out.frozen 1
      have s2z := Y.out.frozen 2
      have HO : Hid (OwnI wr w.heap.size wr.heap.size A newZ) := Lib.hid (G.out.own (by omega))
      have HBo : Hid (OwnB wr w.heap.size wr.heap.size (some ⟨w.heap.size + 2, 0, none⟩) zG) := Lib.hid (.inr ⟨w.heap.size + 2, 16, fun _ => .bool false, rfl, by omega, B.out.lt, by rw [zG_len]; exact Nat.le_refl _, made_row (by have := B.out; rw [← HMc.out] at this; exact this), fun i hi => by
        have : zG.getD i false = false := by unfold zG; rw [List.getD_eq_getElem?_getD]; rw [zG_len] at hi; rw [List.getElem?_replicate, if_pos hi]; rfl
        rw [this]⟩)
      clear G B HMc
      go_wp2
      refine bodyPost_ret (v := .agg #[.slice A 256 c, .slice (some ⟨w.heap.size + 2, 0, none⟩) 16 16, .int .i64 0]) (by simp [results, Try.results94, go_sem, s0, s1, s2]) rfl ?_
      exact ⟨_, _, _, _, _, _, rfl, Lib.hid newZ_len, Lib.hid zG_len, Lib.hid ((HO.out.far3 Y.out _ _ _).wideB (Nat.le_refl _) (by rw [size3]; exact Nat.le_refl _)), Lib.hid ((HBo.out.far3 Y.out _ _ _).wide (Nat.le_refl _) (by rw [size3]; exact Nat.le_refl _)), below3 hbw (by omega) _ _ _⟩
end Go.Proofs.Ytdanefhfngmipaa

/- Contracts of sectors, fateOf, tear, settle: what a crash makes of a disk. -/
namespace Go.Proofs.Ytdanefhfngmipaa
open Go.RowKit

/-- n empty strings, as cells. -/
def zS (n : Nat) : List Value := List.replicate n (.string ByteArray.empty)
theorem zS_len (n : Nat) : (zS n).length = n := by unfold zS; rw [List.length_replicate]
theorem made_zS (n : Nat) : madeCells #[.string ByteArray.empty] n = (zS n).toArray := by
  apply Array.ext
  · simp [size_madeCells, zS_len]
  · intro i h1 h2
    simp [madeCells, zS, Nat.mod_one]
set_option maxRecDepth 100000 in
theorem szStr : (Try.prog.info? 9).map (·.size) = some 1 := by kernel_rfl
theorem row_of_list {w : World} {b : Nat} {t : TypeId} {n : Nat} {ss : List ByteArray} (hl : ss.length = n) (h : w.heap[b]? = some (.cells (ss.map Value.string).toArray t (0, 0))) : w.rowIs b t n (fun i => .string (ss.getD i ByteArray.empty)) :=
  ⟨_, h, by simp [hl], fun i hi => by
    have hi' : i < ss.length := by omega
    simp [List.getD_eq_getElem?_getD, hi']⟩

/-- The cells of a slice of strings. -/
def cellsS (ss : List ByteArray) : List Value := ss.map Value.string
theorem cellsS_len (ss : List ByteArray) : (cellsS ss).length = ss.length := by simp [cellsS]
theorem cellsS_one (ss : List ByteArray) : ∀ v ∈ cellsS ss, v.oneCell' = true := fun v hv => by
  obtain ⟨s, _, rfl⟩ := List.mem_map.1 hv
  rfl
theorem StrL.src {w : World} {A : Option Addr} {ss : List ByteArray} (h : StrL w A ss) (hp : 0 < (cellsS ss).length) : ∃ ad, A = some ad ∧ ∀ j v, (cellsS ss)[j]? = some v → w.cell? (ad.add j) = some v := by
  rw [cellsS_len] at hp
  obtain ⟨b, off, e, _⟩ := h 0 hp
  refine ⟨⟨b, off, none⟩, e, fun j v hj => ?_⟩
  have hj' : j < ss.length := by have := (List.getElem?_eq_some_iff.1 hj).1; simpa [cellsS] using this
  obtain ⟨b', off', e', hc⟩ := h j hj'
  rw [e] at e'
  injection e' with e'
  injection e' with e1 e2
  subst e1 e2
  have hv : v = Value.string (ss.getD j ByteArray.empty) := by
    unfold cellsS at hj
    rw [List.getElem?_map, List.getElem?_eq_getElem hj', Option.map_some] at hj
    rw [List.getD_eq_getElem?_getD, List.getElem?_eq_getElem hj']
    exact (Option.some.inj hj).symm
  rw [hv, ← hc]
  unfold Addr.add
  by_cases h0 : j = 0
  · subst h0; simp
  · rw [if_neg h0]

/-- The fate of write i. -/
def fateAt (fates : List Int) (i : Nat) : Int := if fates.length = 0 then 0 else fates.getD (i % fates.length) 0

/-- A torn write: the first half of the data, then what was there behind it. -/
def tearOf (old data : ByteArray) : ByteArray := if old.size ≤ data.size / 2 then data.extract 0 (data.size / 2) else data.extract 0 (data.size / 2) ++ old.extract (data.size / 2) old.size

theorem extract_size (s : ByteArray) (a b : Nat) : (s.extract a b).size = min b s.size - a := by simp [ByteArray.size_extract]
theorem tearOf_size (old data : ByteArray) (h1 : old.size ≤ 100) (h2 : data.size ≤ 100) : (tearOf old data).size ≤ 100 := by
  unfold tearOf
  split
  · rw [extract_size]; omega
  · rw [ByteArray.size_append, extract_size, extract_size]; omega
theorem getD_set (l : List ByteArray) (p j : Nat) (x : ByteArray) (h : p < l.length) : (l.set p x).getD j ByteArray.empty = if j = p then x else l.getD j ByteArray.empty := by
  simp only [List.getD_eq_getElem?_getD, List.getElem?_set]
  by_cases e : j = p
  · subst e; rw [if_pos rfl, if_pos rfl, if_pos h]; rfl
  · rw [if_neg (fun h => e h.symm), if_neg e]
/-- A store into the row of strings. -/
theorem row_set {w : World} {b p : Nat} {t : TypeId} {n : Nat} {l : List ByteArray} {x : ByteArray} (h : w.rowIs b t n (fun i => .string (l.getD i ByteArray.empty))) (hp : p < l.length) : (w.setCell ⟨b, p, none⟩ (.string x)).rowIs b t n (fun i => .string ((l.set p x).getD i ByteArray.empty)) :=
  (h.set p (.string x)).congr (fun j _ => by
    rw [getD_set l p j x hp]
    by_cases e : j = p
    · rw [if_pos e, if_pos e]
    · rw [if_neg e, if_neg e])
theorem getD_small {l : List ByteArray} (h : ∀ s ∈ l, s.size ≤ 100) (p : Nat) : (l.getD p ByteArray.empty).size ≤ 100 := by
  rw [List.getD_eq_getElem?_getD]
  rcases Nat.lt_or_ge p l.length with hlt | hge
  · rw [List.getElem?_eq_getElem hlt]; exact h _ (List.getElem_mem _)
  · rw [List.getElem?_eq_none hge]; exact Nat.zero_le _

/-- A disk that DiskOK lets by. -/
structure Ok (ss : List ByteArray) (ws : List (Int × ByteArray)) : Prop where
  n48 : ss.length = 48
  m60 : ws.length ≤ 60
  small : ∀ s ∈ ss, s.size ≤ 100
  smallW : ∀ x ∈ ws, x.2.size ≤ 100
  at_ : ∀ x ∈ ws, 0 ≤ x.1 ∧ x.1 ≤ 47
theorem ok_of {ss : List ByteArray} {ws : List (Int × ByteArray)} (h : okDisk ss ws = true) : Ok ss ws := by
  unfold okDisk at h
  simp only [Bool.and_eq_true, decide_eq_true_eq, List.all_eq_true] at h
  obtain ⟨⟨h1, h2⟩, h3, h4⟩ := h
  refine ⟨h1, h2, fun s hs => ?_, fun x hx => ?_, fun x hx => ?_⟩
  · have := h3 s hs; unfold okSt at this; simpa using this
  · have := h4 x hx; unfold okWr at this; simp at this; exact this.2
  · have := h4 x hx; unfold okWr at this; simp at this; exact secB_range this.1

end Go.Proofs.Ytdanefhfngmipaa

/- Contract of the model's flush: l01Flush. -/
namespace Go.Proofs.Ytdanefhfngmipaa
open Go.RowKit

theorem fate_one (k : Nat) : fateAt [1] k = 1 := by simp [fateAt, Nat.mod_one]
/-- From a row that an append made to a row by its index. -/
theorem row_of_own {w : World} {base n : Nat} {v : Value} {ss : List ByteArray} (h : w.ownsRow base 9 1 v n (cellsS ss)) (hn : 0 < n) : ∃ g cap m f, v = .slice (some ⟨g, 0, none⟩) n cap ∧ base ≤ g ∧ n ≤ m ∧ ss.length = n ∧ w.rowIs g 9 m f ∧ ∀ i, i < n → f i = .string (ss.getD i ByteArray.empty) := by
  obtain ⟨hl, h0 | ⟨g, cap, cur, rfl, hb, hg, hnc, _, hsz, htk⟩⟩ := h
  · omega
  · rw [cellsS_len, Nat.mul_one] at hl
    rw [Nat.mul_one] at hsz htk
    refine ⟨g, cap, cap, fun i => cur.toList.getD i undef, rfl, hb, hnc, hl, ⟨cur, hg, hsz, fun i hi => ?_⟩, fun i hi => ?_⟩
    · have : i < cur.toList.length := by simp [hsz, hi]
      show cur[i]? = some (cur.toList.getD i undef)
      rw [List.getD_eq_getElem?_getD, List.getElem?_eq_getElem this, ← Array.getElem?_toList, List.getElem?_eq_getElem this]
      rfl
    · have h1 : (cur.toList.take n)[i]? = (cellsS ss)[i]? := by rw [htk]
      rw [List.getElem?_take, if_pos hi] at h1
      show cur.toList.getD i undef = _
      rw [List.getD_eq_getElem?_getD, h1]
      unfold cellsS
      rw [List.getElem?_map, List.getD_eq_getElem?_getD, List.getElem?_eq_getElem (by omega)]
      rfl
theorem own_empty {w : World} {base g : Nat} {t : TypeId} (hb : base ≤ g) (hg : Box w g t #[]) : w.ownsRow base t 1 (.slice (some ⟨g, 0, none⟩) 0 0) 0 (cellsS []) :=
  ⟨rfl, .inr ⟨g, 0, #[], rfl, hb, hg, Nat.le_refl _, Nat.zero_le _, rfl, rfl⟩⟩
theorem cellsS_app (ss : List ByteArray) : cellsS [] ++ cellsS ss = cellsS ss := rfl
theorem below_of_grown {B : Nat} {w w' : World} {r : Option Nat} (h : w.grownBy w' r) (hr : ∀ k, r = some k → B ≤ k) (hB : B ≤ w.heap.size) : Below B w w' := (Below.refl B w).grown h hB hr

/-- A row of strings with room to spare: the first n are these. -/
def RowS (w : World) (b n m : Nat) (l : List ByteArray) : Prop := l.length = n ∧ n ≤ m ∧ ∃ f, w.rowIs b 9 m f ∧ ∀ i, i < n → f i = .string (l.getD i ByteArray.empty)
theorem RowS.cell {w : World} {b n m p : Nat} {l : List ByteArray} (h : RowS w b n m l) (hp : p < n) : w.cell? ⟨b, p, none⟩ = some (.string (l.getD p ByteArray.empty)) := by
  obtain ⟨_, hm, f, hr, hf⟩ := h
  rw [← hf p hp]; exact hr.cell (by omega)
theorem RowS.frozen {w : World} {b n m : Nat} {l : List ByteArray} (h : RowS w b n m l) (p : Nat) : w.frozen? ⟨b, p, none⟩ = false := by
  obtain ⟨_, hm, f, hr, hf⟩ := h
  exact hr.frozen p
theorem RowS.lt {w : World} {b n m : Nat} {l : List ByteArray} (h : RowS w b n m l) : b < w.heap.size := by
  obtain ⟨_, hm, f, hr, hf⟩ := h
  exact hr.lt
theorem RowS.below {w w' : World} {b n m : Nat} {l : List ByteArray} (h : RowS w b n m l) (hb : Below w.heap.size w w') : RowS w' b n m l := by
  obtain ⟨hl, hm, f, hr, hf⟩ := h
  exact ⟨hl, hm, f, row_below hb hr hr.lt, hf⟩
theorem RowS.set {w : World} {b n m p : Nat} {l : List ByteArray} (h : RowS w b n m l) (hp : p < n) (x : ByteArray) : RowS (w.setCell ⟨b, p, none⟩ (.string x)) b n m (l.set p x) := by
  obtain ⟨hl, hm, f, hr, hf⟩ := h
  refine ⟨by simpa using hl, hm, _, hr.set p (.string x), fun i hi => ?_⟩
  rw [getD_set l p i x (by omega)]
  by_cases e : i = p
  · rw [if_pos e, if_pos e]
  · rw [if_neg e, if_neg e]; exact hf i hi
theorem RowS.far {w : World} {b n m : Nat} {l : List ByteArray} (h : RowS w b n m l) {a : Addr} (ha : b ≠ a.block) (v : Value) : RowS (w.setCell a v) b n m l := by
  obtain ⟨hl, hm, f, hr, hf⟩ := h
  exact ⟨hl, hm, f, hr.setOther ha v, hf⟩
theorem RowS.own {w : World} {b n m lo hi : Nat} {l : List ByteArray} (h : RowS w b n m l) (h1 : lo ≤ b) (h2 : b < hi) : OwnS w lo hi (some ⟨b, 0, none⟩) l := by
  obtain ⟨hl, hm, f, hr, hf⟩ := h
  exact .inr ⟨b, m, f, rfl, h1, h2, by omega, hr, fun i hi => hf i (by omega)⟩

set_option maxRecDepth 100000 in
theorem infoSx : ∃ i : TypeInfo, Try.prog.info? 9 = some i ∧ i.zero = some (.string ByteArray.empty) ∧ i.size = 1 ∧ i.bytes = 16 := by
  obtain ⟨i, hi, hzz⟩ := Option.map_eq_some_iff.1 infoS
  simp only [Prod.mk.injEq] at hzz
  exact ⟨i, hi, hzz.1, hzz.2.1, hzz.2.2⟩

end Go.Proofs.Ytdanefhfngmipaa

/- Contracts of the model's crash: l01Crash; of the tests of fates. -/
namespace Go.Proofs.Ytdanefhfngmipaa
open Go.RowKit

theorem tear_min (old x : ByteArray) : x.extract 0 (x.size / 2) ++ old.extract (min (x.size / 2) old.size) old.size = tearOf old x := by
  unfold tearOf
  split
  · rename_i h
    rw [Nat.min_eq_right h]
    apply WideShapes.bytes_inj
    simp [ByteArray.data_extract]
  · rename_i h
    rw [Nat.min_eq_left (by omega)]

end Go.Proofs.Ytdanefhfngmipaa

/- The model's source of draws: byte, next, chance. -/
namespace Go.Proofs.Ytdanefhfngmipaa
open Go.RowKit

/-- The slice at A holds these bytes, in a block below lo. -/
def ByB (w : World) (lo : Nat) (A : Option Addr) (zs : List Nat) : Prop :=
  ∀ i, i < zs.length → ∃ b off, A = some ⟨b, off, none⟩ ∧ b < lo ∧ w.cell? ⟨b, off + i, none⟩ = some (.int .u8 (zs.getD i 0 : Nat)) ∧ zs.getD i 0 < 256
theorem ByB.btw {w w' : World} {lo l h' : Nat} {A : Option Addr} {zs : List Nat} (h : ByB w lo A zs) (hb : Btw l h' w w') (ho : lo ≤ l) : ByB w' lo A zs := fun i hi => by
  obtain ⟨b, off, e, q1, q2, q3⟩ := h i hi
  exact ⟨b, off, e, q1, hb.cell q2 (.inl (by show b < l; omega)), q3⟩
/-- The source at b: its bytes, how many are drawn (at most K), a seed. -/
def Src (w : World) (b : Nat) (A : Option Addr) (n c : Nat) (zs : List Nat) (K : Nat) : Prop :=
  ∃ k sd : Nat, Box w b 94 #[.slice A n c, .int .i64 k, .int .i64 sd] ∧ k ≤ K ∧ sd < 2147483648 ∧ zs.length = n ∧ ByB w b A zs
theorem Src.btw {w w' : World} {b l h' : Nat} {A : Option Addr} {n c : Nat} {zs : List Nat} {K : Nat} (h : Src w b A n c zs K) (hb : Btw l h' w w') (ho : b < l) : Src w' b A n c zs K := by
  obtain ⟨k, sd, q1, q2, q3, q4, q5⟩ := h
  exact ⟨k, sd, q1.btw hb (.inl ho), q2, q3, q4, q5.btw hb (by omega)⟩
theorem Src.lt {w : World} {b : Nat} {A : Option Addr} {n c : Nat} {zs : List Nat} {K : Nat} (h : Src w b A n c zs K) : b < w.heap.size := by
  obtain ⟨k, sd, q1, _⟩ := h
  exact q1.lt
theorem Src.mono {w : World} {b : Nat} {A : Option Addr} {n c : Nat} {zs : List Nat} {K K' : Nat} (h : Src w b A n c zs K) (hk : K ≤ K') : Src w b A n c zs K' := by
  obtain ⟨k, sd, q1, q2, q3⟩ := h
  exact ⟨k, sd, q1, by omega, q3⟩

/-- After 'at++'. -/
theorem src_at {w : World} {b : Nat} {A : Option Addr} {n c : Nat} {k sd : Nat} (X : Box w b 94 #[.slice A n c, .int .i64 k, .int .i64 sd]) :
    Box (w.setCell ⟨b, 1, none⟩ (.int .i64 ((k : Int) + 1))) b 94 #[.slice A n c, .int .i64 ((k + 1 : Nat) : Int), .int .i64 sd] := X.set 1 (.int .i64 ((k : Int) + 1))
theorem src_seed {w : World} {b : Nat} {A : Option Addr} {n c : Nat} {k sd : Nat} (X : Box w b 94 #[.slice A n c, .int .i64 k, .int .i64 sd]) (s2 : Nat) :
    Box (w.setCell ⟨b, 2, none⟩ (.int .i64 (s2 : Int))) b 94 #[.slice A n c, .int .i64 k, .int .i64 s2] := X.set 2 (.int .i64 (s2 : Int))

/-- The source at b, exactly: its bytes, how many are drawn, the seed. -/
def SrcX (w : World) (b : Nat) (A : Option Addr) (n c : Nat) (zs : List Nat) (k sd : Nat) : Prop :=
  Box w b 94 #[.slice A n c, .int .i64 k, .int .i64 sd] ∧ sd < 2147483648 ∧ zs.length = n ∧ ByB w b A zs
/-- What byte draws: the byte, the count, the seed. -/
def byteV (zs : List Nat) (k sd : Nat) : Nat × Nat × Nat :=
  if k < zs.length then (zs.getD k 0, k + 1, (sd * 31 + zs.getD k 0 + 7) % 2147483648) else if 3000 < k + 1 then (0, k + 1, sd) else ((sd * 1103515245 + 12345) % 2147483648 / 65536 % 256, k + 1, (sd * 1103515245 + 12345) % 2147483648)
theorem byteV_at (zs : List Nat) (k sd : Nat) : (byteV zs k sd).2.1 = k + 1 := by
  unfold byteV; split
  · rfl
  · split <;> rfl
theorem SrcX.src {w : World} {b : Nat} {A : Option Addr} {n c : Nat} {zs : List Nat} {k sd : Nat} (h : SrcX w b A n c zs k sd) {K : Nat} (hk : k ≤ K) : Src w b A n c zs K := ⟨k, sd, h.1, hk, h.2.1, h.2.2.1, h.2.2.2⟩
theorem Src.exact {w : World} {b : Nat} {A : Option Addr} {n c : Nat} {zs : List Nat} {K : Nat} (h : Src w b A n c zs K) : ∃ k sd, k ≤ K ∧ SrcX w b A n c zs k sd := by
  obtain ⟨k, sd, q1, q2, q3, q4, q5⟩ := h
  exact ⟨k, sd, q2, q1, q3, q4, q5⟩
theorem SrcX.byteV_lt {w : World} {b : Nat} {A : Option Addr} {n c : Nat} {zs : List Nat} {k sd : Nat} (h : SrcX w b A n c zs k sd) : (byteV zs k sd).1 < 256 := by
  unfold byteV; split
  · rename_i hk; obtain ⟨_, _, _, _, _, hv⟩ := h.2.2.2 k hk; exact hv
  · split
    · exact (by omega : (0 : Nat) < 256)
    · exact Nat.mod_lt _ (by omega)

set_option maxRecDepth 100000 in
set_option maxHeartbeats 4000000 in
theorem srcByteX (b : Nat) (A : Option Addr) (n c : Nat) (zs : List Nat) (k sd : Nat) (w : World) (hk9 : k ≤ 1000000000) (h : SrcX w b A n c zs k sd) :
    Calls Try.prog 101 #[.pointer (some ⟨b, 0, none⟩)] w fun e w' => e = .returned (.int .i64 ((byteV zs k sd).1 : Nat)) ∧ Hid (SrcX w' b A n c zs (byteV zs k sd).2.1 (byteV zs k sd).2.2) ∧ Btw b (b + 1) w w' := by
  obtain ⟨X, hs, hl, hz⟩ := h
  have HX := Lib.hid (src_at X)
  have HB : Hid (Btw b (b + 1) w (w.setCell ⟨b, 1, none⟩ (.int .i64 ((k : Int) + 1)))) := Lib.hid ((Btw.refl b (b + 1) w).setCell (p := ⟨b, 1, none⟩) (by show b ≤ b; omega) (by show b < b + 1; omega) _)
  have HZ := Lib.hid (hz.btw HB.out (Nat.le_refl _))
  have HL := Lib.hid hl
  have f1 : w.cell? ⟨b, 1, none⟩ = some (.int .i64 k) := X.cell 1 rfl
  have g1 := X.frozen 1
  clear X hz hl
  go_enter Try.func101, Try.ntmps101
  go_wp2
  generalize w.setCell ⟨b, 1, none⟩ (.int .i64 ((k : Int) + 1)) = w1 at HX HB HZ ⊢
  clear f1 g1
  have f0 : w1.cell? ⟨b, 0, none⟩ = some (.slice A n c) := HX.out.cell 0 rfl
  have f1 : w1.cell? ⟨b, 1, none⟩ = some (.int .i64 ((k : Int) + 1)) := HX.out.cell 1 rfl
  have f2 : w1.cell? ⟨b, 2, none⟩ = some (.int .i64 sd) := HX.out.cell 2 rfl
  have g2 := HX.out.frozen 2
  by_cases hlt : k < n
  · have hlt' : (k : Int) + 1 ≤ (n : Int) := by omega
    have hk0 : (0 : Int) ≤ (k : Int) := by omega
    have hki : (k : Int) < (n : Int) := by omega
    obtain ⟨bb, off, rfl, hbb, hc, hv⟩ := HZ.out k (by rw [HL.out]; exact hlt)
    have HV : Hid (byteV zs k sd = (zs.getD k 0, k + 1, (sd * 31 + zs.getD k 0 + 7) % 2147483648)) := Lib.hid (by unfold byteV; rw [if_pos (by rw [HL.out]; exact hlt)])
    generalize zs.getD k 0 = x at hc hv HV
    have hne : ¬ bb = b := by omega
    go_quiet (fail)
    go_wp2
    have HX2 := Lib.hid (HX.out.drewN nq)
    have HB2 := Lib.hid (HB.out.drewN nq)
    have HZ2 := Lib.hid (HZ.out.btw ((Btw.refl b (b + 1) w1).drewN nq) (Nat.le_refl _))
    have hc2 : (w1.drewN nq).cell? ⟨bb, off + k, none⟩ = some (.int .u8 (x : Nat)) := hc
    clear f0 f1 f2 g2 hc HX HB HZ
    generalize w1.drewN nq = w2 at HX2 HB2 HZ2 hc2 ⊢
    have f0 : w2.cell? ⟨b, 0, none⟩ = some (.slice (some ⟨bb, off, none⟩) n c) := HX2.out.cell 0 rfl
    have f1 : w2.cell? ⟨b, 1, none⟩ = some (.int .i64 ((k : Int) + 1)) := HX2.out.cell 1 rfl
    have f2 : w2.cell? ⟨b, 2, none⟩ = some (.int .i64 sd) := HX2.out.cell 2 rfl
    have g2 := HX2.out.frozen 2
    have t0 : (0 : Int) ≤ (sd : Int) := by omega
    have u1 : IntKind.i64.wrap ((sd : Int) * 31) = (sd : Int) * 31 := IntWalk.i64_in _ ⟨by omega, by omega⟩
    have u2 : IntKind.i64.wrap (k : Int) = (k : Int) := IntWalk.i64_in _ ⟨by omega, by omega⟩
    have u3 : IntKind.i64.wrap (x : Int) = (x : Int) := IntWalk.i64_in _ ⟨by omega, by omega⟩
    have u4 : IntKind.i64.wrap ((sd : Int) * 31 + (x : Int)) = (sd : Int) * 31 + (x : Int) := IntWalk.i64_in _ ⟨by omega, by omega⟩
    have u5 : IntKind.i64.wrap ((sd : Int) * 31 + (x : Int) + 7) = (sd : Int) * 31 + (x : Int) + 7 := IntWalk.i64_in _ ⟨by omega, by omega⟩
    go_still_tail 21, (by kernel_rfl)
    change wpList _ _ _ _ _ w2.drew
    go_wp2
    clear u1 u2 u3 u4 u5
    have e1 : ((sd : Int) * 31 + (x : Int) + 7) % 2147483648 = (((sd * 31 + x + 7) % 2147483648 : Nat) : Int) := by omega
    have e2 : (sd * 31 + x + 7) % 2147483648 < 2147483648 := Nat.mod_lt _ (by omega)
    rw [e1]
    clear e1
    generalize (sd * 31 + x + 7) % 2147483648 = s2 at e2 HV ⊢
    have kA : Btw b (b + 1) w2 ((w2.setCell ⟨b, 2, none⟩ (.int .i64 (s2 : Int))).drew) := ((Btw.refl b (b + 1) _).setCell (p := ⟨b, 2, none⟩) (by show b ≤ b; omega) (by show b < b + 1; omega) _).drew
    have HX3 := Lib.hid (src_seed HX2.out s2).drew
    have HB3 := Lib.hid (HB2.out.trans kA)
    have HZ3 := Lib.hid (HZ2.out.btw kA (Nat.le_refl _))
    have hc3 := kA.cell hc2 (.inl hbb)
    clear f0 f1 f2 g2 hc2 HX2 HB2 HZ2 kA
    generalize (w2.setCell ⟨b, 2, none⟩ (.int .i64 (s2 : Int))).drew = w3 at HX3 HB3 HZ3 hc3 ⊢
    have f0 : w3.cell? ⟨b, 0, none⟩ = some (.slice (some ⟨bb, off, none⟩) n c) := HX3.out.cell 0 rfl
    have f1 : w3.cell? ⟨b, 1, none⟩ = some (.int .i64 ((k : Int) + 1)) := HX3.out.cell 1 rfl
    have u2 : IntKind.i64.wrap (k : Int) = (k : Int) := IntWalk.i64_in _ ⟨by omega, by omega⟩
    have u3 : IntKind.i64.wrap (x : Int) = (x : Int) := IntWalk.i64_in _ ⟨by omega, by omega⟩
    go_quiet (fail)
    clear u2 u3
    go_wp2
    refine bodyPost_ret (v := .int .i64 (x : Int)) (by simp [results, Try.results101, go_sem]) rfl ?_
    rw [HV.out]
    exact ⟨rfl, Lib.hid ⟨HX3.out.drewN _, e2, HL.out, HZ3.out.btw ((Btw.refl b (b + 1) w3).drewN _) (Nat.le_refl _)⟩, HB3.out.drewN _⟩
  · have hlt' : ¬ (k : Int) + 1 ≤ (n : Int) := by omega
    by_cases h3 : 3000 < (k : Int) + 1
    · have HV : Hid (byteV zs k sd = (0, k + 1, sd)) := Lib.hid (by unfold byteV; rw [if_neg (by rw [HL.out]; exact hlt), if_pos (by omega)])
      go_quiet (fail)
      go_wp2
      refine bodyPost_ret (v := .int .i64 ((0 : Nat) : Int)) (by simp [results, Try.results101, go_sem]) rfl ?_
      rw [HV.out]
      exact ⟨rfl, Lib.hid ⟨HX.out.drewN nq, hs, HL.out, HZ.out.btw ((Btw.refl b (b + 1) w1).drewN nq) (Nat.le_refl _)⟩, HB.out.drewN nq⟩
    · have HV : Hid (byteV zs k sd = ((sd * 1103515245 + 12345) % 2147483648 / 65536 % 256, k + 1, (sd * 1103515245 + 12345) % 2147483648)) := Lib.hid (by unfold byteV; rw [if_neg (by rw [HL.out]; exact hlt), if_neg (by omega)])
      go_quiet (fail)
      go_wp2
      have e1 : ((sd : Int) * 1103515245 + 12345) % 2147483648 = (((sd * 1103515245 + 12345) % 2147483648 : Nat) : Int) := by omega
      have e2 : (sd * 1103515245 + 12345) % 2147483648 < 2147483648 := Nat.mod_lt _ (by omega)
      rw [e1]
      generalize (sd * 1103515245 + 12345) % 2147483648 = s2 at e2 HV ⊢
      have e3 : (s2 : Int) / 65536 % 256 = ((s2 / 65536 % 256 : Nat) : Int) := by omega
      rw [e3]
      have kA : Btw b (b + 1) (w1.drewN nq) ((w1.drewN nq).setCell ⟨b, 2, none⟩ (.int .i64 (s2 : Int))) := (Btw.refl b (b + 1) _).setCell (p := ⟨b, 2, none⟩) (by show b ≤ b; omega) (by show b < b + 1; omega) _
      have kB := ((Btw.refl b (b + 1) w1).drewN nq).trans kA
      refine bodyPost_ret (v := .int .i64 ((s2 / 65536 % 256 : Nat) : Int)) (by simp [results, Try.results101, go_sem]) rfl ?_
      rw [HV.out]
      exact ⟨rfl, Lib.hid ⟨src_seed (HX.out.drewN nq) s2, e2, HL.out, HZ.out.btw kB (Nat.le_refl _)⟩, HB.out.trans kB⟩

set_option maxRecDepth 100000 in
theorem srcByte (b : Nat) (A : Option Addr) (n c : Nat) (zs : List Nat) (K : Nat) (w : World) (hK : K ≤ 1000000000) (h : Src w b A n c zs K) :
    Calls Try.prog 101 #[.pointer (some ⟨b, 0, none⟩)] w fun e w' => ∃ v : Nat, e = .returned (.int .i64 v) ∧ v < 256 ∧ Hid (Src w' b A n c zs (K + 1)) ∧ Btw b (b + 1) w w' := by
  obtain ⟨k, sd, hk, hx⟩ := h.exact
  refine (srcByteX b A n c zs k sd w (by omega) hx).mono ?_
  rintro e w' ⟨rfl, h2, h3⟩
  exact ⟨_, rfl, hx.byteV_lt, Lib.hid (h2.out.src (by rw [byteV_at]; omega)), h3⟩
end Go.Proofs.Ytdanefhfngmipaa

/- The model's source of draws: next, chance, the source itself. -/
namespace Go.Proofs.Ytdanefhfngmipaa
open Go.RowKit

set_option maxRecDepth 100000 in
set_option maxHeartbeats 4000000 in
theorem srcNextX (N : Nat) (b : Nat) (A : Option Addr) (n c : Nat) (zs : List Nat) (k sd : Nat) (w : World) (hN : 2 ≤ N) (hN2 : N ≤ 256) (hK : k ≤ 1000000000) (h : SrcX w b A n c zs k sd) :
    Calls Try.prog 81 #[.pointer (some ⟨b, 0, none⟩), .int .i64 (N : Nat)] w fun e w' => e = .returned (.int .i64 ((byteV zs k sd).1 % N : Nat)) ∧ Hid (SrcX w' b A n c zs (byteV zs k sd).2.1 (byteV zs k sd).2.2) ∧ Btw b (b + 1) w w' := by
  have HC := Lib.hid (srcByteX b A n c zs k sd w hK h)
  have h1 : ¬ (N : Int) ≤ 1 := by omega
  have h2 : (N : Int) ≤ 256 := by omega
  have h3 : ¬ (N : Int) = 0 := by omega
  clear h
  go_enter Try.func81, Try.ntmps81
  go_wp2_with fail
  refine HC.out.mono ?_
  rintro e w1 ⟨rfl, S1, hb1⟩
  obtain ⟨v, hv⟩ : ∃ v, v = (byteV zs k sd).1 := ⟨_, rfl⟩
  rw [← hv]
  have HV := Lib.hid hv
  clear hv
  have v0 : (0 : Int) ≤ (v : Int) := by omega
  go_wp2
  have e1 : (v : Int) % (N : Int) = ((v % N : Nat) : Int) := by omega
  rw [e1]
  refine bodyPost_ret (v := .int .i64 ((v % N : Nat) : Int)) (by simp [results, Try.results81, go_sem]) rfl ?_
  exact ⟨by rw [HV.out], S1, hb1⟩

set_option maxRecDepth 100000 in
theorem srcNext (N : Nat) (b : Nat) (A : Option Addr) (n c : Nat) (zs : List Nat) (K : Nat) (w : World) (hN : 2 ≤ N) (hN2 : N ≤ 256) (hK : K ≤ 1000000000) (h : Src w b A n c zs K) :
    Calls Try.prog 81 #[.pointer (some ⟨b, 0, none⟩), .int .i64 (N : Nat)] w fun e w' => ∃ v : Nat, e = .returned (.int .i64 v) ∧ v < N ∧ Hid (Src w' b A n c zs (K + 1)) ∧ Btw b (b + 1) w w' := by
  obtain ⟨k, sd, hk, hx⟩ := h.exact
  refine (srcNextX N b A n c zs k sd w hN hN2 (by omega) hx).mono ?_
  rintro e w' ⟨rfl, h2, h3⟩
  exact ⟨_, rfl, Nat.mod_lt _ (by omega), Lib.hid (h2.out.src (by rw [byteV_at]; omega)), h3⟩

set_option maxRecDepth 100000 in
set_option maxHeartbeats 4000000 in
theorem srcChance (N : Nat) (b : Nat) (A : Option Addr) (n c : Nat) (zs : List Nat) (K : Nat) (w : World) (hN : 2 ≤ N) (hN2 : N ≤ 256) (hK : K ≤ 1000000000) (h : Src w b A n c zs K) :
    Calls Try.prog 99 #[.pointer (some ⟨b, 0, none⟩), .int .i64 (N : Nat)] w fun e w' => ∃ v : Bool, e = .returned (.bool v) ∧ Hid (Src w' b A n c zs (K + 1)) ∧ Btw b (b + 1) w w' := by
  have HC := Lib.hid (srcNext N b A n c zs K w hN hN2 hK h)
  clear h
  go_enter Try.func99, Try.ntmps99
  go_wp2_with fail
  refine HC.out.mono ?_
  rintro e w1 ⟨v, rfl, hv, S1, hb1⟩
  go_wp2
  refine bodyPost_ret (v := .bool ((v : Int) == (N : Int) - 1)) (by simp [results, Try.results99, go_sem]) rfl ?_
  exact ⟨_, rfl, S1, hb1⟩

set_option maxRecDepth 100000 in
set_option maxHeartbeats 4000000 in
theorem srcNewX (A : Option Addr) (n c : Nat) (zs : List Nat) (w : World) (hn : n ≤ maxLen) (hl : zs.length = n) (h : ByB w w.heap.size A zs) :
    Calls Try.prog 41 #[.slice A n c] w fun e w' => e = .returned (.pointer (some ⟨w.heap.size, 0, none⟩)) ∧ Hid (SrcX w' w.heap.size A n c zs 0 (n % 1000)) ∧ Below w.heap.size w w' := by
  unfold maxLen at hn
  go_enter Try.func41, Try.ntmps41
  go_wp2
  have e1 : (n : Int) % 1000 = ((n % 1000 : Nat) : Int) := by omega
  rw [e1]
  refine bodyPost_ret (v := .pointer (some ⟨w.heap.size, 0, none⟩)) (by simp [results, Try.results41, go_sem]) rfl ?_
  have hb := alloc_below w (.cells #[.slice A n c, .int .i64 0, .int .i64 ((n % 1000 : Nat) : Int)] 94)
  exact ⟨rfl, Lib.hid ⟨Box.new _ _ _, Nat.lt_of_lt_of_le (Nat.mod_lt _ (by omega)) (by omega), hl, h.btw (Btw.of_below hb w.heap.size (w.heap.size + 1)) (Nat.le_refl _)⟩, hb⟩

set_option maxRecDepth 100000 in
theorem srcNew (A : Option Addr) (n c : Nat) (zs : List Nat) (w : World) (hn : n ≤ maxLen) (hl : zs.length = n) (h : ByB w w.heap.size A zs) :
    Calls Try.prog 41 #[.slice A n c] w fun e w' => e = .returned (.pointer (some ⟨w.heap.size, 0, none⟩)) ∧ Hid (Src w' w.heap.size A n c zs 0) ∧ Below w.heap.size w w' := by
  refine (srcNewX A n c zs w hn hl h).mono ?_
  rintro e w' ⟨rfl, h2, h3⟩
  exact ⟨rfl, Lib.hid (h2.out.src (Nat.le_refl _)), h3⟩
end Go.Proofs.Ytdanefhfngmipaa

/- The source of draws, carried over what does not touch it. -/
namespace Go.Proofs.Ytdanefhfngmipaa
open Go.RowKit

theorem Src.below {w w' : World} {b B : Nat} {A : Option Addr} {n c : Nat} {zs : List Nat} {K : Nat} (h : Src w b A n c zs K) (hb : Below B w w') (ho : b < B) : Src w' b A n c zs K := by
  obtain ⟨k, sd, q1, q2, q3, q4, q5⟩ := h
  refine ⟨k, sd, q1.below hb ho, q2, q3, q4, fun i hi => ?_⟩
  obtain ⟨bb, off, e, p1, p2, p3⟩ := q5 i hi
  exact ⟨bb, off, e, p1, (hb.cell (by show bb < B; omega)).trans p2, p3⟩
theorem Src.drew {w : World} {b : Nat} {A : Option Addr} {n c : Nat} {zs : List Nat} {K : Nat} (h : Src w b A n c zs K) : Src w.drew b A n c zs K := h.below (Below.refl _ _).drew h.lt
theorem Src.alloc {w : World} {b : Nat} {A : Option Addr} {n c : Nat} {zs : List Nat} {K : Nat} (h : Src w b A n c zs K) (o : Obj) : Src (w.alloc o) b A n c zs K := h.below (alloc_below w o) h.lt
theorem ByB.step {w w' : World} {A : Option Addr} {zs : List Nat} (h : ByB w w.heap.size A zs) (hb : Below w.heap.size w w') : ByB w' w'.heap.size A zs := fun i hi => by
  obtain ⟨b, off, e, q1, q2, q3⟩ := h i hi
  exact ⟨b, off, e, Nat.lt_of_lt_of_le q1 hb.size, (hb.cell q1).trans q2, q3⟩
end Go.Proofs.Ytdanefhfngmipaa
