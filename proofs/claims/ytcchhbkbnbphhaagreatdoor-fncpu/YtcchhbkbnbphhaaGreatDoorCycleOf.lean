/- The contract of chip.cycle. -/
import Derived.Test.YtcchhbkbnbphhaaGreatDoorM6
import Derived.Test.YtcchhbkbnbphhaaGreatDoorM3
import Derived.StillTailTactics
namespace Go.Proofs.YtcchhbkbnbphhaaGreatDoor
open Go.RowKit

def cycZ (zs : List Int) (gs : List Bool) (st : Int) (k v : Nat) : List Int := if st = 3 then progL zs gs k v else if st = 6 then wipeZ zs gs k v else zs
def cycG (gs : List Bool) (st : Int) (k : Nat) : List Bool := if st = 8 then gs.set (k / 16) true else gs
theorem cycZ_len (zs : List Int) (gs : List Bool) (st : Int) (k v : Nat) : (cycZ zs gs st k v).length = zs.length := by
  unfold cycZ
  split
  · exact progL_len _ _ _ _
  · split
    · exact wipeZ_len _ _ _ _
    · rfl
theorem cycG_len (gs : List Bool) (st : Int) (k : Nat) : (cycG gs st k).length = gs.length := by
  unfold cycG
  split
  · exact List.length_set
  · rfl
theorem eraseN_range {zs : List Int} {gs : List Bool} (h : ∀ z ∈ zs, 0 ≤ z ∧ z ≤ 255) : ∀ n, ∀ z ∈ eraseN zs gs n, 0 ≤ z ∧ z ≤ 255
  | 0 => h
  | n + 1 => eraseL_range (eraseN_range h n)
theorem wipeZ_range {zs : List Int} {gs : List Bool} {k v : Nat} (h : ∀ z ∈ zs, 0 ≤ z ∧ z ≤ 255) : ∀ z ∈ wipeZ zs gs k v, 0 ≤ z ∧ z ≤ 255 := by
  unfold wipeZ
  split
  · split
    · exact eraseN_range h 16
    · exact h
  · split
    · exact eraseL_range h
    · exact h
theorem cycZ_range {zs : List Int} {gs : List Bool} {st : Int} {k v : Nat} (h : ∀ z ∈ zs, 0 ≤ z ∧ z ≤ 255) (hv : v < 256) : ∀ z ∈ cycZ zs gs st k v, 0 ≤ z ∧ z ≤ 255 := by
  unfold cycZ
  split
  · exact progL_range h hv
  · split
    · exact wipeZ_range h
    · exact h
theorem nextS_in (st k v : Int) : 0 ≤ nextS st k v ∧ nextS st k v ≤ 8 := by
  unfold nextS cmdS
  split
  · split <;> omega
  · split
    · split <;> omega
    · split
      · split
        · split
          · omega
          · split
            · omega
            · split
              · omega
              · split <;> omega
        · omega
      · split
        · split <;> omega
        · omega

theorem wpStill_load_mid {P : Program} {ops : Array Oper} {w : World} {Q : Act → Prop} {a : Act} {o : Oper} {rest : List Oper} (hgd : o.guard = none) (ty : TypeId) (x : Operand) (ho : o.op = .load ty x)
    (b off : Nat) (hx : a.eval x = .pointer (some ⟨b, off, none⟩)) (cs : List Value) (d : TypeDesc) (hc : w.rangeAt b off cs) (hu : P.underlying ty = some d) (hd : d.isRow = true) (hi : (P.info? ty).map (·.size) = some cs.length)
    (h : wpStill P ops w Q rest (a.put o.dst (.agg cs.toArray))) : wpStill P ops w Q (o :: rest) a :=
  wpStill_step (fun K hK => by
    rw [if_pos (by simp [Region.wanted, hgd])]
    unfold Oper.still execOp
    simp only [ho, hx, Instr.loadAt, Instr.sureAddr, Sem.run_bind, Sem.run_pure, Result.andThen_ok, run_loadVar_mid w b off ty cs d hc hu hd hi]
    rw [Oper.stillUpon_value]
    exact hK _ h)

set_option maxRecDepth 100000 in
set_option maxHeartbeats 8000000 in
theorem chipCycle (k v : Nat) (zs : List Int) (gs : List Bool) (st : Int) (w : World) (hz : zs.length = 256) (hg : gs.length = 16) (hs : 0 ≤ st ∧ st ≤ 8) (hk : k < 256) (hv : v < 256) (hzs : ∀ z ∈ zs, 0 ≤ z ∧ z ≤ 255) :
    Calls Tryz.prog 152 #[.agg (chipC zs gs st).toArray, .int .i64 k, .int .u8 v] w (GivesChip (cycZ zs gs st k v) (cycG gs st k) (nextS st k v) w) := by
  obtain ⟨X0, Y0, hb0⟩ := two_chips w zs gs st
  have HL := Lib.hid (And.intro hz hg)
  have HIn := Lib.hid infoCx
  obtain ⟨zc, hzc⟩ : ∃ zc, zc = zC.toArray := ⟨_, rfl⟩
  rw [← hzc] at HIn X0 Y0 hb0
  obtain ⟨W1, hW1⟩ : ∃ W1, W1 = (w.alloc (.cells (chipC zs gs st).toArray 94)).alloc (.cells zc 94) := ⟨_, rfl⟩
  have hs1 : W1.heap.size = w.heap.size + 1 + 1 := by rw [hW1]; simp
  rw [← hW1] at X0 Y0 hb0
  have Z0 : BC (W1.alloc (.cells zc 94)) (w.heap.size + 1 + 1) zZ zG 0 := by have := BC.newZ W1; rw [hs1, ← hzc] at this; exact this
  have HLd := Lib.hid (X0.loads hz hg)
  have HSt := Lib.hid (Z0.stores (zs' := zs) (gs' := gs) (st' := st) zZ_len zG_len hz hg)
  obtain ⟨W3, hW3⟩ : ∃ W3, W3 = (W1.alloc (.cells zc 94)).setCells (w.heap.size + 1 + 1) 0 (chipC zs gs st) := ⟨_, rfl⟩
  have X3 : BC W3 w.heap.size zs gs st := by rw [hW3]; exact (X0.alloc _).far' (by omega) _ _
  have Y3 : BC W3 (w.heap.size + 1) zZ zG 0 := by rw [hW3]; exact (Y0.alloc _).far' (by omega) _ _
  have Z3 : BC W3 (w.heap.size + 1 + 1) zs gs st := by rw [hW3]; exact Z0.put (hz.trans zZ_len.symm) (hg.trans zG_len.symm)
  have hb3 : Below w.heap.size w W3 := by rw [hW3]; exact below_setCellsC (bt hb0 (alloc_below _ _)) (by omega) 0 _
  have x2 := X3.state hz hg
  have HLd3 := Lib.hid (X3.loads hz hg)
  have HN := Lib.hid (fun W => chipNext k v zs gs st W hz hg hs)
  have HPr := Lib.hid (fun W => chipProgram k v zs gs st W hz hg hk hv hzs)
  have HWi := Lib.hid (fun W => chipWipe k v zs gs st W hz hg hk hv)
  have HGu := Lib.hid (fun W => chipProtect (k / 16) zs gs st W hz hg (by omega))
  have HPr : Hid (∀ W, Calls Tryz.prog 154 #[.agg (chipC zs gs st).toArray, .int .i64 k, .int .u8 v] W fun e w' => e = .returned (.agg (chipC (progL zs gs k v) gs st).toArray) ∧ Below W.heap.size W w') := HPr
  have HWi : Hid (∀ W, Calls Tryz.prog 155 #[.agg (chipC zs gs st).toArray, .int .i64 k, .int .u8 v] W fun e w' => e = .returned (.agg (chipC (wipeZ zs gs k v) gs st).toArray) ∧ Below W.heap.size W w') := HWi
  have HGu : Hid (∀ W, Calls Tryz.prog 156 #[.agg (chipC zs gs st).toArray, .int .i64 ((k / 16 : Nat) : Int)] W fun e w' => e = .returned (.agg (chipC zs (gs.set (k / 16) true) st).toArray) ∧ Below W.heap.size W w') := HGu
  have HBo := Lib.hid (fun W => blockOf k (by omega) W)
  have HX3 := Lib.hid (And.intro X3 (And.intro Y3 Z3))
  have HB3 := Lib.hid hb3
  generalize hns : nextS st k v = sn at HN
  have HNs := Lib.hid hns
  generalize hc0 : chipC zs gs st = c0 at HLd HSt HLd3 HN HPr HWi HGu hW1 hW3
  have HC0 := Lib.hid hc0
  have HW1 := Lib.hid hW1
  have HW3 := Lib.hid hW3
  have HS1 := Lib.hid hs1
  rw [hW3] at x2
  clear hz hg hs X0 Y0 Z0 hb0 hzc hW1 hs1 hW3 X3 Y3 Z3 hb3 hzs hns hc0
  by_cases h3 : st = 3
  · subst h3
    have HE : Hid (cycZ zs gs 3 k v = progL zs gs k v ∧ cycG gs 3 k = gs) := Lib.hid ⟨by unfold cycZ; rw [if_pos rfl], by unfold cycG; rw [if_neg (by omega)]⟩
    go_enter Tryz.func152, Tryz.ntmps152
    obtain ⟨c4, hc4⟩ : ∃ c4, c4 = chipC (progL zs gs k v) (gs) 3 := ⟨_, rfl⟩
    rw [← hc4] at HPr
    have HC4 := Lib.hid hc4
    clear hc4
    go_wp2_with (first
      | (with_reducible refine wpList_alloc_at rfl 94 rfl zc HIn.out (w.heap.size + 1 + 1) HS1.out ?_)
      | (with_reducible refine wpList_alloc_big rfl 94 rfl zc HIn.out ?_)
      | (rw [← HW3.out]; with_reducible refine wpList_load_mid rfl 94 (.tmp 3) rfl w.heap.size 0 rfl c0 _ HLd3.out.range Tryz.underlying94 rfl HLd3.out.size ?_)
      | (rw [← HW1.out]; with_reducible refine wpList_load_mid rfl 94 (.tmp 3) rfl w.heap.size 0 rfl c0 _ HLd.out.range Tryz.underlying94 rfl HLd.out.size ?_)
      | (with_reducible refine wpList_store_mid rfl 94 (.tmp 7) (.tmp 8) rfl (w.heap.size + 1 + 1) 0 c0.toArray rfl rfl HSt.out.room HSt.out.size HSt.out.one ?_))
    refine (HPr.out W3).mono ?_
    rintro e w4 ⟨rfl, hb4⟩
    have HS4 := Lib.hid ((HX3.out.2.2.step hb4).stores (zs' := progL zs gs k v) (gs' := gs) (st' := 3) HL.out.1 HL.out.2 (by rw [progL_len]; exact HL.out.1) (HL.out.2))
    rw [← HC4.out] at HS4
    obtain ⟨W5, hW5⟩ : ∃ W5, W5 = w4.setCells (w.heap.size + 1 + 1) 0 c4 := ⟨_, rfl⟩
    have X5 : BC W5 w.heap.size zs gs 3 := by rw [hW5]; exact (HX3.out.1.step hb4).far' (by omega) _ _
    have Y5 : BC W5 (w.heap.size + 1) zZ zG 0 := by rw [hW5]; exact (HX3.out.2.1.step hb4).far' (by omega) _ _
    have Z5 : BC W5 (w.heap.size + 1 + 1) (progL zs gs k v) (gs) 3 := by rw [hW5, HC4.out]; exact (HX3.out.2.2.step hb4).put ((by rw [progL_len]; exact HL.out.1 : _ = 256).trans HL.out.1.symm) ((HL.out.2 : _ = 16).trans HL.out.2.symm)
    have hb5 : Below w.heap.size w W5 := by rw [hW5]; exact below_setCellsC (bt HB3.out hb4) (by omega) 0 _
    have HLd5 := Lib.hid (X5.loads HL.out.1 HL.out.2)
    rw [HC0.out] at HLd5
    have HX5 := Lib.hid (And.intro Y5 Z5)
    have HB5 := Lib.hid hb5
    have HW5 := Lib.hid hW5
    clear x2 hb4 X5 Y5 Z5 hb5 hW5 HX3 HB3 HLd HSt HLd3
    go_wp2_with (first
      | (with_reducible refine wpList_store_mid rfl 94 (.tmp 7) (.tmp 16) rfl (w.heap.size + 1 + 1) 0 c4.toArray rfl rfl HS4.out.room HS4.out.size HS4.out.one ?_)
      | (rw [← HW5.out]; with_reducible refine wpList_load_mid rfl 94 (.tmp 3) rfl w.heap.size 0 rfl c0 _ HLd5.out.range Tryz.underlying94 rfl HLd5.out.size ?_))
    refine (HN.out W5).mono ?_
    rintro e w6 ⟨rfl, hb6⟩
    have HZ6 := Lib.hid (HX5.out.2.step hb6)
    have HY6 := Lib.hid (HX5.out.1.step hb6)
    have hbz := bt HB5.out hb6
    clear hb6 HX5 HB5 HW5 HLd5
    have c6 := HZ6.out.state (by rw [progL_len]; exact HL.out.1) (HL.out.2)
    have c6z := HZ6.out.frozen 272
    have hZ7 := HZ6.out.setS (by rw [progL_len]; exact HL.out.1) (HL.out.2) sn
    have hY7 := HY6.out.far (p := ⟨w.heap.size + 1 + 1, 272, none⟩) (by show w.heap.size + 1 ≠ w.heap.size + 1 + 1; omega) (.int .i64 sn)
    have HH := Lib.hid (hZ7.hands hY7 (by rw [progL_len]; exact HL.out.1) (HL.out.2) zZ_len zG_len)
    generalize hc7 : chipC (progL zs gs k v) (gs) sn = c7 at HH
    have HC7 := Lib.hid hc7
    clear hZ7 hY7 hc7
    go_wp2_with (first
      | (with_reducible refine wpList_load_mid rfl 94 (.tmp 7) rfl (w.heap.size + 1 + 1) 0 rfl c7 _ HH.out.range Tryz.underlying94 rfl HH.out.size ?_)
      | (with_reducible refine wpList_store_mid rfl 94 (.tmp 6) (.tmp 34) rfl (w.heap.size + 1) 0 c7.toArray rfl rfl HH.out.room HH.out.size' HH.out.one ?_))
    refine bodyPost_ret (v := .agg c7.toArray) (results_cellC Tryz.results152 (by rfl) HH.out.back) rfl ?_
    exact ⟨by rw [HE.out.1, HE.out.2, HC7.out], below_setCellsC (hbz.setCell (p := ⟨w.heap.size + 1 + 1, 272, none⟩) (by show w.heap.size ≤ w.heap.size + 1 + 1; omega) _) (by omega) 0 c7⟩
  by_cases h6 : st = 6
  · subst h6
    clear h3
    have HE : Hid (cycZ zs gs 6 k v = wipeZ zs gs k v ∧ cycG gs 6 k = gs) := Lib.hid ⟨by unfold cycZ; rw [if_neg (by omega), if_pos rfl], by unfold cycG; rw [if_neg (by omega)]⟩
    go_enter Tryz.func152, Tryz.ntmps152
    obtain ⟨c4, hc4⟩ : ∃ c4, c4 = chipC (wipeZ zs gs k v) (gs) 6 := ⟨_, rfl⟩
    rw [← hc4] at HWi
    have HC4 := Lib.hid hc4
    clear hc4
    go_wp2_with (first
      | (with_reducible refine wpList_alloc_at rfl 94 rfl zc HIn.out (w.heap.size + 1 + 1) HS1.out ?_)
      | (with_reducible refine wpList_alloc_big rfl 94 rfl zc HIn.out ?_)
      | (rw [← HW3.out]; with_reducible refine wpList_load_mid rfl 94 (.tmp 3) rfl w.heap.size 0 rfl c0 _ HLd3.out.range Tryz.underlying94 rfl HLd3.out.size ?_)
      | (rw [← HW1.out]; with_reducible refine wpList_load_mid rfl 94 (.tmp 3) rfl w.heap.size 0 rfl c0 _ HLd.out.range Tryz.underlying94 rfl HLd.out.size ?_)
      | (with_reducible refine wpList_store_mid rfl 94 (.tmp 7) (.tmp 8) rfl (w.heap.size + 1 + 1) 0 c0.toArray rfl rfl HSt.out.room HSt.out.size HSt.out.one ?_))
    refine (HWi.out W3).mono ?_
    rintro e w4 ⟨rfl, hb4⟩
    have HS4 := Lib.hid ((HX3.out.2.2.step hb4).stores (zs' := wipeZ zs gs k v) (gs' := gs) (st' := 6) HL.out.1 HL.out.2 (by rw [wipeZ_len]; exact HL.out.1) (HL.out.2))
    rw [← HC4.out] at HS4
    obtain ⟨W5, hW5⟩ : ∃ W5, W5 = w4.setCells (w.heap.size + 1 + 1) 0 c4 := ⟨_, rfl⟩
    have X5 : BC W5 w.heap.size zs gs 6 := by rw [hW5]; exact (HX3.out.1.step hb4).far' (by omega) _ _
    have Y5 : BC W5 (w.heap.size + 1) zZ zG 0 := by rw [hW5]; exact (HX3.out.2.1.step hb4).far' (by omega) _ _
    have Z5 : BC W5 (w.heap.size + 1 + 1) (wipeZ zs gs k v) (gs) 6 := by rw [hW5, HC4.out]; exact (HX3.out.2.2.step hb4).put ((by rw [wipeZ_len]; exact HL.out.1 : _ = 256).trans HL.out.1.symm) ((HL.out.2 : _ = 16).trans HL.out.2.symm)
    have hb5 : Below w.heap.size w W5 := by rw [hW5]; exact below_setCellsC (bt HB3.out hb4) (by omega) 0 _
    have HLd5 := Lib.hid (X5.loads HL.out.1 HL.out.2)
    rw [HC0.out] at HLd5
    have HX5 := Lib.hid (And.intro Y5 Z5)
    have HB5 := Lib.hid hb5
    have HW5 := Lib.hid hW5
    clear x2 hb4 X5 Y5 Z5 hb5 hW5 HX3 HB3 HLd HSt HLd3
    go_wp2_with (first
      | (with_reducible refine wpList_store_mid rfl 94 (.tmp 7) (.tmp 22) rfl (w.heap.size + 1 + 1) 0 c4.toArray rfl rfl HS4.out.room HS4.out.size HS4.out.one ?_)
      | (rw [← HW5.out]; with_reducible refine wpList_load_mid rfl 94 (.tmp 3) rfl w.heap.size 0 rfl c0 _ HLd5.out.range Tryz.underlying94 rfl HLd5.out.size ?_))
    refine (HN.out W5).mono ?_
    rintro e w6 ⟨rfl, hb6⟩
    have HZ6 := Lib.hid (HX5.out.2.step hb6)
    have HY6 := Lib.hid (HX5.out.1.step hb6)
    have hbz := bt HB5.out hb6
    clear hb6 HX5 HB5 HW5 HLd5
    have c6 := HZ6.out.state (by rw [wipeZ_len]; exact HL.out.1) (HL.out.2)
    have c6z := HZ6.out.frozen 272
    have hZ7 := HZ6.out.setS (by rw [wipeZ_len]; exact HL.out.1) (HL.out.2) sn
    have hY7 := HY6.out.far (p := ⟨w.heap.size + 1 + 1, 272, none⟩) (by show w.heap.size + 1 ≠ w.heap.size + 1 + 1; omega) (.int .i64 sn)
    have HH := Lib.hid (hZ7.hands hY7 (by rw [wipeZ_len]; exact HL.out.1) (HL.out.2) zZ_len zG_len)
    generalize hc7 : chipC (wipeZ zs gs k v) (gs) sn = c7 at HH
    have HC7 := Lib.hid hc7
    clear hZ7 hY7 hc7
    go_wp2_with (first
      | (with_reducible refine wpList_load_mid rfl 94 (.tmp 7) rfl (w.heap.size + 1 + 1) 0 rfl c7 _ HH.out.range Tryz.underlying94 rfl HH.out.size ?_)
      | (with_reducible refine wpList_store_mid rfl 94 (.tmp 6) (.tmp 34) rfl (w.heap.size + 1) 0 c7.toArray rfl rfl HH.out.room HH.out.size' HH.out.one ?_))
    refine bodyPost_ret (v := .agg c7.toArray) (results_cellC Tryz.results152 (by rfl) HH.out.back) rfl ?_
    exact ⟨by rw [HE.out.1, HE.out.2, HC7.out], below_setCellsC (hbz.setCell (p := ⟨w.heap.size + 1 + 1, 272, none⟩) (by show w.heap.size ≤ w.heap.size + 1 + 1; omega) _) (by omega) 0 c7⟩
  by_cases h8 : st = 8
  · subst h8
    clear h3 h6
    have HE : Hid (cycZ zs gs 8 k v = zs ∧ cycG gs 8 k = gs.set (k / 16) true) := Lib.hid ⟨by unfold cycZ; rw [if_neg (by omega), if_neg (by omega)], by unfold cycG; rw [if_pos rfl]⟩
    go_enter Tryz.func152, Tryz.ntmps152
    obtain ⟨c4, hc4⟩ : ∃ c4, c4 = chipC (zs) (gs.set (k / 16) true) 8 := ⟨_, rfl⟩
    rw [← hc4] at HGu
    have HC4 := Lib.hid hc4
    clear hc4
    have h6 : Below W3.heap.size W3 W3.drew := (Below.refl _ _).drew
    have HLd3' := Lib.hid ((BC.step HX3.out.1 h6).loads HL.out.1 HL.out.2)
    rw [HC0.out] at HLd3'
    go_wp2_with (first
      | (with_reducible refine wpList_alloc_at rfl 94 rfl zc HIn.out (w.heap.size + 1 + 1) HS1.out ?_)
      | (with_reducible refine wpList_alloc_big rfl 94 rfl zc HIn.out ?_)
      | (rw [← HW3.out]; with_reducible refine wpList_load_mid rfl 94 (.tmp 3) rfl w.heap.size 0 rfl c0 _ HLd3.out.range Tryz.underlying94 rfl HLd3.out.size ?_)
      | (rw [← HW1.out]; with_reducible refine wpList_load_mid rfl 94 (.tmp 3) rfl w.heap.size 0 rfl c0 _ HLd.out.range Tryz.underlying94 rfl HLd.out.size ?_)
      | (with_reducible refine wpList_store_mid rfl 94 (.tmp 7) (.tmp 8) rfl (w.heap.size + 1 + 1) 0 c0.toArray rfl rfl HSt.out.room HSt.out.size HSt.out.one ?_))
    rw [← HW3.out]
    refine wp_region_still_tail 3 (by kernel_rfl) (by kernel_rfl) ?_
    simp only [List.take_succ_cons, List.take_zero, List.drop_succ_cons, List.drop_zero]
    refine wpStill_load_mid rfl 94 (.tmp 3) rfl w.heap.size 0 rfl c0 _ HLd3'.out.range Tryz.underlying94 rfl HLd3'.out.size ?_
    still_step
    still_call ((HBo.out _).mono fun _ _ ⟨q1, q2⟩ => ⟨q1, q2.symm⟩)
    refine wpStill_nil ?_
    change wpList _ _ _ _ _ W3.drew
    generalize hWd : W3.drew = Wd at h6 HLd3' ⊢
    clear hWd
    clear HLd3'
    go_wp2_with fail
    refine (HGu.out Wd).mono ?_
    rintro e w4 ⟨rfl, hb4'⟩
    have hb4 := bt h6 hb4'
    clear h6 hb4'
    have HS4 := Lib.hid ((HX3.out.2.2.step hb4).stores (zs' := zs) (gs' := gs.set (k / 16) true) (st' := 8) HL.out.1 HL.out.2 (HL.out.1) (by rw [List.length_set]; exact HL.out.2))
    rw [← HC4.out] at HS4
    obtain ⟨W5, hW5⟩ : ∃ W5, W5 = w4.setCells (w.heap.size + 1 + 1) 0 c4 := ⟨_, rfl⟩
    have X5 : BC W5 w.heap.size zs gs 8 := by rw [hW5]; exact (HX3.out.1.step hb4).far' (by omega) _ _
    have Y5 : BC W5 (w.heap.size + 1) zZ zG 0 := by rw [hW5]; exact (HX3.out.2.1.step hb4).far' (by omega) _ _
    have Z5 : BC W5 (w.heap.size + 1 + 1) (zs) (gs.set (k / 16) true) 8 := by rw [hW5, HC4.out]; exact (HX3.out.2.2.step hb4).put ((HL.out.1 : _ = 256).trans HL.out.1.symm) ((by rw [List.length_set]; exact HL.out.2 : _ = 16).trans HL.out.2.symm)
    have hb5 : Below w.heap.size w W5 := by rw [hW5]; exact below_setCellsC (bt HB3.out hb4) (by omega) 0 _
    have HLd5 := Lib.hid (X5.loads HL.out.1 HL.out.2)
    rw [HC0.out] at HLd5
    have HX5 := Lib.hid (And.intro Y5 Z5)
    have HB5 := Lib.hid hb5
    have HW5 := Lib.hid hW5
    clear x2 hb4 X5 Y5 Z5 hb5 hW5 HX3 HB3 HLd HSt HLd3
    go_wp2_with (first
      | (with_reducible refine wpList_store_mid rfl 94 (.tmp 7) (.tmp 28) rfl (w.heap.size + 1 + 1) 0 c4.toArray rfl rfl HS4.out.room HS4.out.size HS4.out.one ?_)
      | (rw [← HW5.out]; with_reducible refine wpList_load_mid rfl 94 (.tmp 3) rfl w.heap.size 0 rfl c0 _ HLd5.out.range Tryz.underlying94 rfl HLd5.out.size ?_))
    refine (HN.out W5).mono ?_
    rintro e w6 ⟨rfl, hb6⟩
    have HZ6 := Lib.hid (HX5.out.2.step hb6)
    have HY6 := Lib.hid (HX5.out.1.step hb6)
    have hbz := bt HB5.out hb6
    clear hb6 HX5 HB5 HW5 HLd5
    have c6 := HZ6.out.state (HL.out.1) (by rw [List.length_set]; exact HL.out.2)
    have c6z := HZ6.out.frozen 272
    have hZ7 := HZ6.out.setS (HL.out.1) (by rw [List.length_set]; exact HL.out.2) sn
    have hY7 := HY6.out.far (p := ⟨w.heap.size + 1 + 1, 272, none⟩) (by show w.heap.size + 1 ≠ w.heap.size + 1 + 1; omega) (.int .i64 sn)
    have HH := Lib.hid (hZ7.hands hY7 (HL.out.1) (by rw [List.length_set]; exact HL.out.2) zZ_len zG_len)
    generalize hc7 : chipC (zs) (gs.set (k / 16) true) sn = c7 at HH
    have HC7 := Lib.hid hc7
    clear hZ7 hY7 hc7
    go_wp2_with (first
      | (with_reducible refine wpList_load_mid rfl 94 (.tmp 7) rfl (w.heap.size + 1 + 1) 0 rfl c7 _ HH.out.range Tryz.underlying94 rfl HH.out.size ?_)
      | (with_reducible refine wpList_store_mid rfl 94 (.tmp 6) (.tmp 34) rfl (w.heap.size + 1) 0 c7.toArray rfl rfl HH.out.room HH.out.size' HH.out.one ?_))
    refine bodyPost_ret (v := .agg c7.toArray) (results_cellC Tryz.results152 (by rfl) HH.out.back) rfl ?_
    exact ⟨by rw [HE.out.1, HE.out.2, HC7.out], below_setCellsC (hbz.setCell (p := ⟨w.heap.size + 1 + 1, 272, none⟩) (by show w.heap.size ≤ w.heap.size + 1 + 1; omega) _) (by omega) 0 c7⟩
  have q3 : (st == 3) = false := by simp [h3]
  have q6 : (st == 6) = false := by simp [h6]
  have q8 : (st == 8) = false := by simp [h8]
  have HE : Hid (cycZ zs gs st k v = zs ∧ cycG gs st k = gs) := Lib.hid ⟨by unfold cycZ; rw [if_neg h3, if_neg h6], by unfold cycG; rw [if_neg h8]⟩
  clear h3 h6 h8
  go_enter Tryz.func152, Tryz.ntmps152
  go_wp2_with (first
    | (with_reducible refine wpList_alloc_at rfl 94 rfl zc HIn.out (w.heap.size + 1 + 1) HS1.out ?_)
    | (with_reducible refine wpList_alloc_big rfl 94 rfl zc HIn.out ?_)
    | (rw [← HW3.out]; with_reducible refine wpList_load_mid rfl 94 (.tmp 3) rfl w.heap.size 0 rfl c0 _ HLd3.out.range Tryz.underlying94 rfl HLd3.out.size ?_)
    | (rw [← HW1.out]; with_reducible refine wpList_load_mid rfl 94 (.tmp 3) rfl w.heap.size 0 rfl c0 _ HLd.out.range Tryz.underlying94 rfl HLd.out.size ?_)
    | (with_reducible refine wpList_store_mid rfl 94 (.tmp 7) (.tmp 8) rfl (w.heap.size + 1 + 1) 0 c0.toArray rfl rfl HSt.out.room HSt.out.size HSt.out.one ?_))
  refine (HN.out W3).mono ?_
  rintro e w6 ⟨rfl, hb6⟩
  have HZ6 := Lib.hid (HX3.out.2.2.step hb6)
  have HY6 := Lib.hid (HX3.out.2.1.step hb6)
  have hbz := bt HB3.out hb6
  clear hb6 HX3 HB3 x2 HLd HSt HLd3
  have c6 := HZ6.out.state (HL.out.1) (HL.out.2)
  have c6z := HZ6.out.frozen 272
  have hZ7 := HZ6.out.setS (HL.out.1) (HL.out.2) sn
  have hY7 := HY6.out.far (p := ⟨w.heap.size + 1 + 1, 272, none⟩) (by show w.heap.size + 1 ≠ w.heap.size + 1 + 1; omega) (.int .i64 sn)
  have HH := Lib.hid (hZ7.hands hY7 (HL.out.1) (HL.out.2) zZ_len zG_len)
  generalize hc7 : chipC (zs) (gs) sn = c7 at HH
  have HC7 := Lib.hid hc7
  clear hZ7 hY7 hc7
  go_wp2_with (first
    | (with_reducible refine wpList_load_mid rfl 94 (.tmp 7) rfl (w.heap.size + 1 + 1) 0 rfl c7 _ HH.out.range Tryz.underlying94 rfl HH.out.size ?_)
    | (with_reducible refine wpList_store_mid rfl 94 (.tmp 6) (.tmp 34) rfl (w.heap.size + 1) 0 c7.toArray rfl rfl HH.out.room HH.out.size' HH.out.one ?_))
  refine bodyPost_ret (v := .agg c7.toArray) (results_cellC Tryz.results152 (by rfl) HH.out.back) rfl ?_
  exact ⟨by rw [HE.out.1, HE.out.2, HC7.out], below_setCellsC (hbz.setCell (p := ⟨w.heap.size + 1 + 1, 272, none⟩) (by show w.heap.size ≤ w.heap.size + 1 + 1; omega) _) (by omega) 0 c7⟩
end Go.Proofs.YtcchhbkbnbphhaaGreatDoor
