/- Texts of this claim, one behind the other: ChipOps, ChipOf, FlashSpec2, FlashOps, BusRead, GenA. -/
import Derived.Laws.CopyOwn
import Derived.Deep.RegionHeld3
import Derived.Test.YtophgbjbinaekaaGreatDoorM2
/- Contracts of chip.protect, chip.program, chip.erase. -/
namespace Go.Proofs.YtophgbjbinaekaaGreatDoor
open Go.RowKit

def GivesChip (zs : List Int) (gs : List Bool) (st : Int) (w : World) (e : Ending) (w' : World) : Prop := e = .returned (.agg (chipC zs gs st).toArray) ∧ Below w.heap.size w w'

structure Hands (W : World) (b b' : Nat) (cs : List Value) : Prop where
  range : W.rangeAt b 0 cs
  room : W.there b' 0 cs.toArray.size
  one : cs.toArray.all (·.oneCell') = true
  size : (Tryz.prog.info? 109).map (·.size) = some cs.length
  size' : (Tryz.prog.info? 109).map (·.size) = some cs.toArray.size
  back : (loadVar 109 ⟨b', 0, none⟩).run Tryz.prog (W.setCells b' 0 cs) = .ok (.agg cs.toArray) (W.setCells b' 0 cs)
set_option maxRecDepth 100000 in
theorem BC.hands {W : World} {b b' : Nat} {zs zs' : List Int} {gs gs' : List Bool} {st st' : Int} (h : BC W b zs gs st) (h' : BC W b' zs' gs' st') (hz : zs.length = 256) (hg : gs.length = 16) (hz' : zs'.length = 256) (hg' : gs'.length = 16) : Hands W b b' (chipC zs gs st) :=
  ⟨h.range, by rw [List.size_toArray, chipC_273 hz hg]; exact h'.there273 hz' hg', all_oneCell_toArray (chipC_one zs gs st), sizeC zs gs st hz hg, by rw [List.size_toArray]; exact sizeC zs gs st hz hg,
    run_loadVar_mid (P := Tryz.prog) _ b' 0 109 _ _ (h'.put (zs' := zs) (gs' := gs) (st' := st) (hz.trans hz'.symm) (hg.trans hg'.symm)).range Tryz.underlying109 rfl (sizeC zs gs st hz hg)⟩
theorem two_chips (w : World) (zs : List Int) (gs : List Bool) (st : Int) : BC ((w.alloc (.cells (chipC zs gs st).toArray 109)).alloc (.cells zC.toArray 109)) w.heap.size zs gs st ∧ BC ((w.alloc (.cells (chipC zs gs st).toArray 109)).alloc (.cells zC.toArray 109)) (w.heap.size + 1) zZ zG 0 ∧ Below w.heap.size w ((w.alloc (.cells (chipC zs gs st).toArray 109)).alloc (.cells zC.toArray 109)) :=
  ⟨(BC.new _ _ _ _).alloc _, by have := BC.newZ (w.alloc (.cells (chipC zs gs st).toArray 109)); rw [World.size_alloc] at this; exact this, bt (alloc_below _ _) (alloc_below _ _)⟩

set_option maxRecDepth 100000 in
set_option maxHeartbeats 1000000 in
theorem chipProtect (k : Nat) (zs : List Int) (gs : List Bool) (st : Int) (w : World) (hz : zs.length = 256) (hg : gs.length = 16) (hk : k < 16) :
    Calls Tryz.prog 182 #[.agg (chipC zs gs st).toArray, .int .i64 k] w (GivesChip zs (gs.set k true) st w) := by
  obtain ⟨X0, Y0, hb0⟩ := two_chips w zs gs st
  have hc := X0.guard hz k (by omega)
  have hf := X0.frozen (256 + k)
  generalize gs.getD k false = q at hc
  obtain ⟨X1, Y1, hb1⟩ := two_chips w zs (gs.set k true) st
  have HE := Lib.hid (chipC_setGuard (st := st) hz k true (show k < gs.length by omega))
  have HH := Lib.hid (X1.hands Y1 hz (by rw [List.length_set]; exact hg) zZ_len zG_len)
  have HB := Lib.hid hb1
  generalize hcs : chipC zs (gs.set k true) st = cs at HE HH HB
  have HCs := Lib.hid hcs
  obtain ⟨W1, hW1⟩ : ∃ W1, W1 = (w.alloc (.cells cs.toArray 109)).alloc (.cells zC.toArray 109) := ⟨_, rfl⟩
  rw [← hW1] at HH HB
  have HW1 := Lib.hid hW1
  have hki : (k : Int) < 16 := by omega
  clear hz hg X0 Y0 X1 Y1 hb0 hb1 hcs hW1
  go_enter Tryz.func182, Tryz.ntmps182
  go_wp2_with (first
    | (with_reducible refine wpList_alloc_big rfl 109 rfl zC.toArray infoCx ?_)
    | (rw [HE.out, ← HW1.out]; with_reducible refine wpList_load_mid rfl 109 (.tmp 2) rfl w.heap.size 0 rfl cs _ HH.out.range Tryz.underlying109 rfl HH.out.size ?_)
    | (with_reducible refine wpList_store_mid rfl 109 (.tmp 4) (.tmp 8) rfl (w.heap.size + 1) 0 cs.toArray rfl rfl HH.out.room HH.out.size' HH.out.one ?_))
  refine bodyPost_ret (v := .agg cs.toArray) (results_cellC Tryz.results182 (by rfl) HH.out.back) rfl ?_
  exact ⟨by rw [HCs.out], below_setCellsC HB.out (by omega) 0 cs⟩

set_option maxRecDepth 100000 in
set_option maxHeartbeats 1000000 in
theorem chipProgram (k v : Nat) (zs : List Int) (gs : List Bool) (st : Int) (w : World) (hz : zs.length = 256) (hg : gs.length = 16) (hk : k < 256) (hv : v < 256) (hzs : ∀ z ∈ zs, 0 ≤ z ∧ z ≤ 255) :
    Calls Tryz.prog 180 #[.agg (chipC zs gs st).toArray, .int .i64 k, .int .u8 v] w (GivesChip (progL zs gs k v) gs st w) := by
  obtain ⟨X0, Y0, hb0⟩ := two_chips w zs gs st
  have hc := X0.cell k (by omega)
  have hf := X0.frozen k
  have hd := X0.guard hz (k / 16) (by omega)
  obtain ⟨z, hzk, hz2⟩ := at256 hzs k (by omega)
  obtain ⟨x, hx⟩ : ∃ x, bits .and .u8 (z : Int) (v : Int) = x := ⟨_, rfl⟩
  have HP : Hid (∀ q, gs.getD (k / 16) false = q → progL zs gs k v = if q then zs else zs.set k x) := Lib.hid (by
    intro q hq
    unfold progL
    rw [hq, hzk, ← hx, and_u8 z v hz2 hv]
    rfl)
  rw [hzk] at hc
  have hkd : ((k / 16 : Nat) : Int) < 16 := by omega
  have hki : (k : Int) < 256 := by omega
  have HB := Lib.hid (fun W => blockOf k (by omega) W)
  have HP2 := Lib.hid (HP.out _ rfl)
  generalize gs.getD (k / 16) false = q at hd HP2
  cases q
  · obtain ⟨X1, Y1, hb1⟩ := two_chips w (zs.set k x) gs st
    have HE := Lib.hid (chipC_setCell (gs := gs) (st := st) k x (show k < zs.length by omega))
    have HH := Lib.hid (X1.hands Y1 (by rw [List.length_set]; exact hz) hg zZ_len zG_len)
    have HBl := Lib.hid hb1
    have HR : Hid (progL zs gs k v = zs.set k x) := Lib.hid (by rw [HP2.out]; rfl)
    rw [← HR.out] at HE HH HBl
    generalize hcs : chipC (progL zs gs k v) gs st = cs at HE HH HBl
    have HCs := Lib.hid hcs
    obtain ⟨W1, hW1⟩ : ∃ W1, W1 = (w.alloc (.cells cs.toArray 109)).alloc (.cells zC.toArray 109) := ⟨_, rfl⟩
    rw [← hW1] at HH HBl
    have HW1 := Lib.hid hW1
    clear hz hg X0 Y0 X1 Y1 hb0 hb1 hcs hW1 HP HP2 HR hzs hzk
    go_enter Tryz.func180, Tryz.ntmps180
    go_wp2_with (first
      | (with_reducible refine wpList_alloc_big rfl 109 rfl zC.toArray infoCx ?_)
      | (go_at_call 183; refine (HB.out _).mono ?_; rintro e w' ⟨rfl, rfl⟩)
      | (rw [HE.out, ← HW1.out]; with_reducible refine wpList_load_mid rfl 109 (.tmp 3) rfl w.heap.size 0 rfl cs _ HH.out.range Tryz.underlying109 rfl HH.out.size ?_)
      | (with_reducible refine wpList_store_mid rfl 109 (.tmp 6) (.tmp 21) rfl (w.heap.size + 1) 0 cs.toArray rfl rfl HH.out.room HH.out.size' HH.out.one ?_))
    refine bodyPost_ret (v := .agg cs.toArray) (results_cellC Tryz.results180 (by rfl) HH.out.back) rfl ?_
    exact ⟨by rw [HCs.out], below_setCellsC HBl.out (by omega) 0 cs⟩
  · have HH := Lib.hid (X0.hands Y0 hz hg zZ_len zG_len)
    have HBl := Lib.hid hb0
    have HR : Hid (progL zs gs k v = zs) := Lib.hid (by rw [HP2.out]; rfl)
    generalize hcs : chipC zs gs st = cs at HH HBl hc hf hd
    have HCs : Hid (chipC (progL zs gs k v) gs st = cs) := Lib.hid (by rw [HR.out]; exact hcs)
    obtain ⟨W1, hW1⟩ : ∃ W1, W1 = (w.alloc (.cells cs.toArray 109)).alloc (.cells zC.toArray 109) := ⟨_, rfl⟩
    rw [← hW1] at HH HBl
    have HW1 := Lib.hid hW1
    clear hz hg X0 Y0 hb0 hcs hW1 HP HP2 HR hzs hzk
    go_enter Tryz.func180, Tryz.ntmps180
    go_wp2_with (first
      | (with_reducible refine wpList_alloc_big rfl 109 rfl zC.toArray infoCx ?_)
      | (go_at_call 183; refine (HB.out _).mono ?_; rintro e w' ⟨rfl, rfl⟩)
      | (rw [← HW1.out]; with_reducible refine wpList_load_mid rfl 109 (.tmp 3) rfl w.heap.size 0 rfl cs _ HH.out.range Tryz.underlying109 rfl HH.out.size ?_)
      | (with_reducible refine wpList_store_mid rfl 109 (.tmp 6) (.tmp 21) rfl (w.heap.size + 1) 0 cs.toArray rfl rfl HH.out.room HH.out.size' HH.out.one ?_))
    refine bodyPost_ret (v := .agg cs.toArray) (results_cellC Tryz.results180 (by rfl) HH.out.back) rfl ?_
    exact ⟨by rw [HCs.out], below_setCellsC HBl.out (by omega) 0 cs⟩

set_option maxRecDepth 100000 in
set_option maxHeartbeats 2000000 in
theorem chipErase (k : Nat) (zs : List Int) (gs : List Bool) (st : Int) (w : World) (hz : zs.length = 256) (hg : gs.length = 16) (hk : k < 16) :
    Calls Tryz.prog 185 #[.agg (chipC zs gs st).toArray, .int .i64 k] w (GivesChip (eraseL zs gs k) gs st w) := by
  obtain ⟨X0, Y0, hb0⟩ := two_chips w zs gs st
  have hd := X0.guard hz k (by omega)
  have HP : Hid (∀ q, gs.getD k false = q → eraseL zs gs k = if q then zs else fillR zs (k * 16) (k * 16 + 16)) := Lib.hid (by intro q hq; unfold eraseL; rw [hq])
  have hki : (k : Int) < 16 := by omega
  have HP2 := Lib.hid (HP.out _ rfl)
  generalize gs.getD k false = q at hd HP2
  cases q
  · have HR : Hid (eraseL zs gs k = fillR zs (k * 16) (k * 16 + 16)) := Lib.hid (by rw [HP2.out]; rfl)
    have HL := Lib.hid (And.intro hz hg)
    have HX := Lib.hid (And.intro X0 (And.intro Y0 hb0))
    clear hz hg X0 Y0 hb0 HP HP2
    go_enter Tryz.func185, Tryz.ntmps185
    go_wp2_with (first
      | (with_reducible refine wpList_alloc_big rfl 109 rfl zC.toArray infoCx ?_))
    go_loopw [11] (fun i wr => ∃ j : Nat, j ≤ 16 ∧ i = .int .i64 j ∧ Below w.heap.size w wr ∧ Hid (BC wr w.heap.size (fillR zs (k * 16) (k * 16 + j)) gs st) ∧ Hid (BC wr (w.heap.size + 1) zZ zG 0)) (fun i _ => 16 - (intOf i).toNat)
    case atStart => exact ⟨0, by omega, rfl, HX.out.2.2, Lib.hid (by rw [Nat.add_zero, fillR_none]; exact HX.out.1), Lib.hid HX.out.2.1⟩
    case round =>
      clear HX hd
      obtain ⟨j, hj, rfl, hbw, X, Y⟩ := hrel
      by_cases hlt : j < 16
      · have hc := X.out.cell (k * 16 + j) (by rw [fillR_len]; have := HL.out; omega)
        have hf := X.out.frozen (k * 16 + j)
        generalize (fillR zs (k * 16) (k * 16 + j)).getD (k * 16 + j) 0 = z at hc
        have hX := X.out.setC (k * 16 + j) 255 (by rw [fillR_len]; have := HL.out; omega)
        rw [fillR_next _ _ _ (by omega) (by have := HL.out; omega)] at hX
        have HXn := Lib.hid hX
        have HYn := Lib.hid (Y.out.far (p := ⟨w.heap.size, k * 16 + j, none⟩) (by show w.heap.size + 1 ≠ w.heap.size; omega) (.int .u8 255))
        have hb' : Below w.heap.size w (wr.setCell ⟨w.heap.size, k * 16 + j, none⟩ (.int .u8 255)) := hbw.setCell (p := ⟨w.heap.size, k * 16 + j, none⟩) (Nat.le_refl _) _
        have hi : (j : Int) < 16 := by omega
        have hidx : (k : Int) * 16 + (j : Int) < 256 := by omega
        clear hX X Y hbw
        go_wp2
        go_roundw
        case rel => exact ⟨j + 1, by omega, by go_num, hb', HXn, HYn⟩
        case measure => simp [intOf]; omega
      · obtain rfl : j = 16 := by omega
        have HH := Lib.hid (X.out.hands Y.out (by rw [fillR_len]; exact HL.out.1) HL.out.2 zZ_len zG_len)
        rw [← HR.out] at HH
        generalize hcs : chipC (eraseL zs gs k) gs st = cs at HH
        have HCs := Lib.hid hcs
        clear hcs X Y
        go_wp2_with (first
          | (with_reducible refine wpList_load_mid rfl 109 (.tmp 2) rfl w.heap.size 0 rfl cs _ HH.out.range Tryz.underlying109 rfl HH.out.size ?_)
          | (with_reducible refine wpList_store_mid rfl 109 (.tmp 4) (.tmp 21) rfl (w.heap.size + 1) 0 cs.toArray rfl rfl HH.out.room HH.out.size' HH.out.one ?_))
        refine bodyPost_ret (v := .agg cs.toArray) (results_cellC Tryz.results185 (by rfl) HH.out.back) rfl ?_
        exact ⟨by rw [HCs.out], below_setCellsC hbw (by omega) 0 cs⟩
  · have HH := Lib.hid (X0.hands Y0 hz hg zZ_len zG_len)
    have HBl := Lib.hid hb0
    have HR : Hid (eraseL zs gs k = zs) := Lib.hid (by rw [HP2.out]; rfl)
    generalize hcs : chipC zs gs st = cs at HH HBl hd
    have HCs : Hid (chipC (eraseL zs gs k) gs st = cs) := Lib.hid (by rw [HR.out]; exact hcs)
    obtain ⟨W1, hW1⟩ : ∃ W1, W1 = (w.alloc (.cells cs.toArray 109)).alloc (.cells zC.toArray 109) := ⟨_, rfl⟩
    rw [← hW1] at HH HBl
    have HW1 := Lib.hid hW1
    clear hz hg X0 Y0 hb0 hcs hW1 HP HP2 HR
    go_enter Tryz.func185, Tryz.ntmps185
    go_wp2_with (first
      | (with_reducible refine wpList_alloc_big rfl 109 rfl zC.toArray infoCx ?_)
      | (rw [← HW1.out]; with_reducible refine wpList_load_mid rfl 109 (.tmp 2) rfl w.heap.size 0 rfl cs _ HH.out.range Tryz.underlying109 rfl HH.out.size ?_)
      | (with_reducible refine wpList_store_mid rfl 109 (.tmp 4) (.tmp 10) rfl (w.heap.size + 1) 0 cs.toArray rfl rfl HH.out.room HH.out.size' HH.out.one ?_))
    refine bodyPost_ret (v := .agg cs.toArray) (results_cellC Tryz.results185 (by rfl) HH.out.back) rfl ?_
    exact ⟨by rw [HCs.out], below_setCellsC HBl.out (by omega) 0 cs⟩
end Go.Proofs.YtophgbjbinaekaaGreatDoor

/- The contract of chipOf: a flash as a chip. -/
namespace Go.Proofs.YtophgbjbinaekaaGreatDoor
open Go.RowKit

def takeZ (zs : List Int) (j : Nat) : List Int := (List.range 256).map fun i => if i < j then zs.getD i 0 else 0
theorem takeZ_len (zs : List Int) (j : Nat) : (takeZ zs j).length = 256 := by simp [takeZ]
theorem takeZ_at (zs : List Int) (j i : Nat) (h : i < 256) : (takeZ zs j).getD i 0 = if i < j then zs.getD i 0 else 0 := by
  unfold takeZ
  rw [List.getD_eq_getElem?_getD, List.getElem?_map, List.getElem?_range h]
  rfl
theorem takeZ_zero (zs : List Int) : takeZ zs 0 = zZ := by
  apply ext_getD 0 (by rw [takeZ_len, zZ_len])
  intro i hi
  rw [takeZ_len] at hi
  rw [takeZ_at _ _ _ hi, if_neg (by omega)]
  unfold zZ
  rw [List.getD_eq_getElem?_getD, List.getElem?_replicate, if_pos hi]
  rfl
theorem takeZ_all (zs : List Int) (h : zs.length = 256) : takeZ zs 256 = zs := by
  apply ext_getD 0 (by rw [takeZ_len, h])
  intro i hi
  rw [takeZ_len] at hi
  rw [takeZ_at _ _ _ hi, if_pos hi]
theorem takeZ_next (zs : List Int) (j : Nat) (hj : j < 256) : (takeZ zs j).set j (zs.getD j 0) = takeZ zs (j + 1) := by
  apply ext_getD 0 (by simp [takeZ_len])
  intro i hi
  have hi' : i < 256 := by simpa [takeZ_len] using hi
  rw [takeZ_at _ _ _ hi']
  by_cases e : i = j
  · subst e
    rw [List.getD_eq_getElem?_getD, List.getElem?_set_self (by rw [takeZ_len]; exact hj), if_pos (by omega)]
    rfl
  · rw [List.getD_eq_getElem?_getD, List.getElem?_set_ne (fun q => e q.symm), ← List.getD_eq_getElem?_getD, takeZ_at _ _ _ hi']
    by_cases q : i < j
    · rw [if_pos q, if_pos (by omega)]
    · rw [if_neg q, if_neg (by omega)]
theorem splice_guard (zs : List Int) (gs gs' : List Bool) (st : Int) (hz : zs.length = 256) (hg : gs.length = gs'.length) : splice (chipC zs gs st) 256 (cellsB gs') = chipC zs gs' st := by
  unfold splice chipC
  rw [List.take_append_of_le_length (by simp [hz]), List.take_of_length_le (by simp [hz]), List.drop_append, List.drop_of_length_le (by simp [hz]), cellsB_len, List.nil_append, List.length_map, hz, show 256 + gs'.length - 256 = gs'.length by omega, List.drop_append, List.drop_of_length_le (by simp [hg]), List.nil_append, List.length_map, hg, Nat.sub_self]
  rfl
set_option maxRecDepth 100000 in
theorem szBool : (Tryz.prog.info? 4).map (·.size) = some 1 := by kernel_rfl
theorem zC_len : zC.length = 273 := chipC_273 zZ_len zG_len 0
theorem zC_set (st : Int) : zC.set 272 (.int .i64 st) = chipC zZ zG st := chipC_setState zZ_len zG_len st
set_option maxRecDepth 100000 in
theorem buildChip (st : Int) (w : World) : (Instr.build 109 #[(2, .int .i64 st)]).run Tryz.prog w = .ok (.agg (chipC zZ zG st).toArray) w := by
  obtain ⟨i, hi, hz⟩ := infoCx
  have hzv : (zeroValue 109).run Tryz.prog w = .ok (.agg zC.toArray) w := by simp [zeroValue, typeInfo, hi, hz]
  have hf : Instr.fill (fun x => ([(0, 256), (256, 16), (272, 1)] : List (Nat × Nat))[x]?) zC.toArray [(2, Value.int .i64 st)] = some (chipC zZ zG st).toArray := by
    simp [Instr.fill, Value.cells, zC_len, zC_set]
  simp [Instr.build, hzv, Value.cells, hf]
theorem wpList_build_chip {P : Program} {ops : Array Oper} {rest : List Oper} {op : Oper} {a : Act} {w : World} {Q : Exit → Act → World → Prop} {t : TypeId} (hgd : op.guard = none) (x : Operand) (v : Value) (cs : List Value) (ho : op.op = .build t #[(2, x)]) (hx : a.eval x = v)
    (hr : (Instr.build t #[(2, v)]).run P w = .ok (.agg cs.toArray) w)
    (h : wpList P ops Q rest (a.put op.dst (.agg cs.toArray)) w) : wpList P ops Q (op :: rest) a w :=
  wpList_plain hgd fun _ hK => by
    unfold Oper.wp execOp
    simp only [ho, Sem.run_bind, Sem.run_pure, Result.andThen_ok, List.map_toArray, List.map_cons, List.map_nil, hx, hr]
    exact hK _ _ h

set_option maxRecDepth 100000 in
set_option maxHeartbeats 4000000 in
theorem chipOf (A C : Option Addr) (n c m d : Nat) (st : Int) (zs : List Int) (gs : List Bool) (w : World) (hl : zs.length = n) (hm : gs.length = m) (hn : n = 256) (hmm : m = 16) (hz : ∀ z ∈ zs, 0 ≤ z ∧ z ≤ 255) (h : IntL w A zs) (g : BoolL w C gs) :
    Calls Tryz.prog 106 #[.agg #[.slice A n c, .slice C m d, .int .i64 st]] w (GivesChip zs gs st w) := by
  obtain ⟨W2, hW2⟩ : ∃ W2, W2 = (((w.alloc (.cells #[.slice A n c, .slice C m d, .int .i64 st] 29)).alloc (.cells zC.toArray 109)).alloc (.cells zC.toArray 109)) := ⟨_, rfl⟩
  have hb2 : Below w.heap.size w W2 := by rw [hW2]; exact bt (bt (alloc_below _ _) (alloc_below _ _)) (alloc_below _ _)
  have X2 : Box W2 w.heap.size 29 #[.slice A n c, .slice C m d, .int .i64 st] := by rw [hW2]; exact ((Box.new _ _ _).alloc _).alloc _
  have Y2 : BC W2 (w.heap.size + 1) zZ zG 0 := by rw [hW2]; have := (BC.newZ (w.alloc (.cells #[.slice A n c, .slice C m d, .int .i64 st] 29))).alloc (.cells zC.toArray 109); rw [World.size_alloc] at this; exact this
  have Z2 : BC W2 (w.heap.size + 1 + 1) zZ zG 0 := by rw [hW2]; have := BC.newZ ((w.alloc (.cells #[.slice A n c, .slice C m d, .int .i64 st] 29)).alloc (.cells zC.toArray 109)); rw [World.size_alloc, World.size_alloc] at this; exact this
  have HT : Hid (W2.there (w.heap.size + 1 + 1) 0 (chipC zZ zG st).toArray.size) := Lib.hid ((show (chipC zZ zG st).toArray.size = 273 from List.size_toArray.trans (chipC_273 zZ_len zG_len st)) ▸ Z2.there273 zZ_len zG_len)
  have HS : Hid ((Tryz.prog.info? 109).map (·.size) = some (chipC zZ zG st).toArray.size) := Lib.hid (by rw [List.size_toArray]; exact sizeC zZ zG st zZ_len zG_len)
  have HO := Lib.hid (all_oneCell_toArray (chipC_one zZ zG st))
  have Z3 := Lib.hid (Z2.put (zs' := zZ) (gs' := zG) (st' := st) rfl rfl)
  have X3 := Lib.hid (setCells_far X2 (show w.heap.size ≠ w.heap.size + 1 + 1 by omega) 0 (chipC zZ zG st))
  have Y3 := Lib.hid (Y2.far' (show w.heap.size + 1 ≠ w.heap.size + 1 + 1 by omega) 0 (chipC zZ zG st))
  have hb3 := below_setCellsC hb2 (show w.heap.size ≤ w.heap.size + 1 + 1 by omega) 0 (chipC zZ zG st)
  have x0 := X2.cell 0 rfl
  have x2 := X2.cell 2 rfl
  have x0' := X3.out.cell 0 rfl
  have HL := Lib.hid (And.intro (hl.trans hn) (hm.trans hmm))
  have HZ := Lib.hid hz
  have H := Lib.hid (And.intro h g)
  have HSb := Lib.hid (fun W (hb : Below w.heap.size w W) => (g.below hb).src (by omega))
  have HW2 := Lib.hid hW2
  have HBd := Lib.hid (fun W => buildChip st W)
  have HIn := Lib.hid infoCx
  generalize hzc : zC.toArray = zc at HW2 HIn
  generalize hcz : chipC zZ zG st = cz at HT HS HO Z3 X3 Y3 hb3 x0' HBd
  have HCz := Lib.hid hcz
  rw [HW2.out] at HT x0 x2 x0'
  subst hn hmm
  clear hl hm hz h g X2 Y2 Z2 hW2 hzc hcz
  go_enter Tryz.func106, Tryz.ntmps106
  go_wp2_with (first
    | (with_reducible refine wpList_alloc_at rfl 109 rfl zc HIn.out (w.heap.size + 1 + 1) ((World.size_alloc _ _).trans (congrArg (· + 1) (World.size_alloc _ _))) ?_)
    | (with_reducible refine wpList_alloc_at rfl 109 rfl zc HIn.out (w.heap.size + 1) (World.size_alloc _ _) ?_)
    | (with_reducible refine wpList_build_chip rfl (.tmp 7) (.int .i64 st) cz rfl rfl (HBd.out _) ?_)
    | (with_reducible refine wpList_store_mid rfl 109 (.tmp 3) (.tmp 8) rfl (w.heap.size + 1 + 1) 0 cz.toArray rfl rfl HT.out HS.out HO.out ?_))
  rw [← HW2.out]
  have x0s : Hid True := Lib.hid trivial
  clear x0 x2 x0' HT HS HO HBd HIn x0s
  generalize W2.setCells (w.heap.size + 1 + 1) 0 cz = W3 at Z3 X3 Y3 hb3 ⊢
  clear hb2 HW2 HCz
  go_loopw [12] (fun i wr => ∃ j : Nat, j ≤ 256 ∧ i = .int .i64 j ∧ Below w.heap.size w wr ∧ Hid (Box wr w.heap.size 29 #[.slice A 256 c, .slice C 16 d, .int .i64 st]) ∧ Hid (BC wr (w.heap.size + 1) zZ zG 0) ∧ Hid (BC wr (w.heap.size + 1 + 1) (takeZ zs j) zG st)) (fun i _ => 256 - (intOf i).toNat)
  case atStart => exact ⟨0, by omega, rfl, hb3, X3, Y3, Lib.hid (by rw [takeZ_zero]; exact Z3.out)⟩
  case round =>
    clear hb3 X3 Y3 Z3
    obtain ⟨j, hj, rfl, hbw, X, Y, Z⟩ := hrel
    by_cases hlt : j < 256
    · obtain ⟨ab, aoff, rfl, hc⟩ := (H.out.1.below hbw) j (by rw [HL.out.1]; exact hlt)
      have hx := HZ.out (zs.getD j 0) (by rw [List.getD_eq_getElem?_getD, List.getElem?_eq_getElem (by rw [HL.out.1]; exact hlt)]; exact List.getElem_mem _)
      have hZ := Z.out.setC j (zs.getD j 0) (by rw [takeZ_len]; exact hlt)
      rw [takeZ_next zs j hlt] at hZ
      have hd := Z.out.cell j (by rw [takeZ_len]; exact hlt)
      generalize (takeZ zs j).getD j 0 = y at hd
      generalize zs.getD j 0 = x at hc hx hZ
      have hf := Z.out.frozen j
      have HZn := Lib.hid hZ
      have HXn := Lib.hid (X.out.far (p := ⟨w.heap.size + 1 + 1, j, none⟩) (by show w.heap.size ≠ w.heap.size + 1 + 1; omega) (.int .u8 x))
      have HYn := Lib.hid (Y.out.far (p := ⟨w.heap.size + 1 + 1, j, none⟩) (by show w.heap.size + 1 ≠ w.heap.size + 1 + 1; omega) (.int .u8 x))
      have hb' : Below w.heap.size w (wr.setCell ⟨w.heap.size + 1 + 1, j, none⟩ (.int .u8 x)) := hbw.setCell (p := ⟨w.heap.size + 1 + 1, j, none⟩) (by show w.heap.size ≤ w.heap.size + 1 + 1; omega) _
      have hi : (j : Int) < 256 := by omega
      have hwr := wrap8 x hx.1 (by omega)
      have hmd : x % 256 = x := by omega
      clear hZ X Y Z hbw
      go_wp2
      go_roundw
      case rel => exact ⟨j + 1, by omega, by go_num, hb', HXn, HYn, HZn⟩
      case measure => simp [intOf]; omega
    · obtain rfl : j = 256 := by omega
      have hZ := Z.out
      rw [takeZ_all zs HL.out.1] at hZ
      have HZ3 := Lib.hid hZ
      have x1 := X.out.cell 1 rfl
      have h6 : Below (w.heap.size + 1 + 1) wr wr.drew := (Below.refl _ _).drew
      have HS1 := Lib.hid (HSb.out _ hbw.drew)
      have HCb : Hid ((cellsB gs).length = Nat.min 16 16) := Lib.hid (by rw [cellsB_len, HL.out.2]; rfl)
      have HFit : Hid (256 + (cellsB gs).length ≤ (chipC zs zG st).length) := Lib.hid (by rw [cellsB_len, HL.out.2, chipC_273 HL.out.1 zG_len]; omega)
      have HOne : Hid (∀ v ∈ cellsB gs, v.oneCell' = true) := Lib.hid (fun v hv => by unfold cellsB at hv; obtain ⟨q, _, rfl⟩ := List.mem_map.1 hv; rfl)
      have HSp := Lib.hid (splice_guard zs zG gs st HL.out.1 (zG_len.trans HL.out.2.symm))
      have HG : Hid (wr.drew.heap[w.heap.size + 1 + 1]? = some (.cells (chipC zs zG st).toArray 109 (0, 0))) := Lib.hid hZ
      generalize cellsB gs = cb at HS1 HCb HFit HOne HSp
      generalize chipC zs zG st = ca at HFit HSp HG
      clear hZ Z
      have HK : Hid (∀ W', Below (w.heap.size + 1 + 1) wr W' → W'.cell? ⟨w.heap.size, 1, none⟩ = some (.slice C 16 d)) := Lib.hid (fun W' hb => (X.out.below hb (by omega)).cell 1 rfl)
      have HY : Hid (∀ W', Below (w.heap.size + 1 + 1) wr W' → BC W' (w.heap.size + 1) zZ zG 0) := Lib.hid (fun W' hb => Box.below Y.out hb (by omega))
      have HBw := Lib.hid hbw
      clear X Y x1 hbw
      go_wp2
      go_region_held3 (fun W => W.cell? ⟨w.heap.size, 1, none⟩ = some (.slice C 16 d))
        (first | exact HK.out _ h6 | exact HK.out _ hb2)
        (first | (refine step_copy_splice rfl (.tmp 24) (.tmp 26) 27 27 rfl 4 Tryz.underlying27 szBool _ _ 16 16 16 d rfl rfl (w.heap.size + 1 + 1) 256 ca 109 HG.out cb HCb.out (fun _ => ⟨rfl, HS1.out⟩) HFit.out HOne.out (w.heap.size + 1 + 1) wr h6 (Nat.le_refl _) ?_; intro w2 hg2 hb2))
      have hZ : BC w2 (w.heap.size + 1 + 1) zs gs st := by have := hg2.out; rw [HSp.out] at this; exact this
      have HH := Lib.hid (hZ.hands (HY.out _ hb2) HL.out.1 HL.out.2 zZ_len zG_len)
      have hbz : Below w.heap.size w w2 := HBw.out.trans (hb2.mono (by omega))
      generalize hcs : chipC zs gs st = cs at HH
      have HCs := Lib.hid hcs
      clear hcs hZ HY HK HSp HG HS1 HCb HFit HOne hg2 hb2 h6
      go_wp2_with (first
        | (with_reducible refine wpList_load_mid rfl 109 (.tmp 3) rfl (w.heap.size + 1 + 1) 0 rfl cs _ HH.out.range Tryz.underlying109 rfl HH.out.size ?_)
        | (with_reducible refine wpList_store_mid rfl 109 (.tmp 2) (.tmp 28) rfl (w.heap.size + 1) 0 cs.toArray rfl rfl HH.out.room HH.out.size' HH.out.one ?_))
      refine bodyPost_ret (v := .agg cs.toArray) (results_cellC Tryz.results106 (by rfl) HH.out.back) rfl ?_
      exact ⟨by rw [HCs.out], below_setCellsC hbz (by omega) 0 cs⟩
end Go.Proofs.YtophgbjbinaekaaGreatDoor

/- The model's l03Guard and l03Erase. -/
namespace Go.Proofs.YtophgbjbinaekaaGreatDoor
open Go.RowKit

set_option maxRecDepth 100000 in
set_option maxHeartbeats 4000000 in
theorem l03Guard (A C : Option Addr) (n c m d k : Nat) (st : Int) (zs : List Int) (gs : List Bool) (w : World) (hl : zs.length = n) (hm : gs.length = m) (hn : n = 256) (hmm : m = 16) (hk : k < 16) (h : IntL w A zs) (g : BoolL w C gs) :
    Calls Tryz.prog 151 #[.agg #[.slice A n c, .slice C m d, .int .i64 st], .int .i64 k] w (GivesFlash zs (gs.set k true) st w) := by
  obtain ⟨W0, hW0⟩ : ∃ W0, W0 = ((w.alloc (.cells #[.slice A n c, .slice C m d, .int .i64 st] 29)).alloc (.cells #[.slice none 0 0, .slice none 0 0, .int .i64 0] 29)) := ⟨_, rfl⟩
  have hb0 : Below w.heap.size w W0 := by rw [hW0]; exact bt (alloc_below _ _) (alloc_below _ _)
  have X0 : Box W0 w.heap.size 29 #[.slice A n c, .slice C m d, .int .i64 st] := by rw [hW0]; exact (Box.new _ _ _).alloc _
  have Y0 : Box W0 (w.heap.size + 1) 29 #[.slice none 0 0, .slice none 0 0, .int .i64 0] := by rw [hW0]; simpa using Box.new (w.alloc (.cells #[.slice A n c, .slice C m d, .int .i64 st] 29)) 29 #[.slice none 0 0, .slice none 0 0, .int .i64 0]
  have HO := Lib.hid (l03Own A C n c m d st zs gs W0 hl hm hn hmm (h.below hb0) (g.below hb0))
  have HLen : Hid (zs.length = 256 ∧ gs.length = 16) := Lib.hid ⟨by omega, by omega⟩
  have HX := Lib.hid (And.intro X0 Y0)
  have HW0 := Lib.hid hW0
  clear hl hm h g hW0 X0 Y0 hn hmm
  have hki : (k : Int) < 16 := by omega
  go_enter Tryz.func151, Tryz.ntmps151
  go_wp2_with fail
  rw [← HW0.out]
  refine HO.out.mono ?_
  rintro e w1 ⟨A1, n1, c1, C1, m1, d1, rfl, L1, M1, S1, R1, hb1⟩
  obtain rfl : n1 = 256 := by have := L1.out; have := HLen.out; omega
  obtain rfl : m1 = 16 := by have := M1.out; have := HLen.out; omega
  have X1 := HX.out.1.step hb1
  have Y1 := HX.out.2.step hb1
  have a0 := X1.cell 0 rfl
  have a1 := X1.cell 1 rfl
  have a2 := X1.cell 2 rfl
  have a0z := X1.frozen 0
  have a1z := X1.frozen 1
  have a2z := X1.frozen 2
  obtain ⟨w2, hw2⟩ : ∃ w2, w2 = ((w1.setCell ⟨w.heap.size, 0, none⟩ (.slice A1 256 c1)).setCell ⟨w.heap.size, 1, none⟩ (.slice C1 16 d1)).setCell ⟨w.heap.size, 2, none⟩ (.int .i64 st) := ⟨_, rfl⟩
  have X2 : Box w2 w.heap.size 29 #[.slice A1 256 c1, .slice C1 16 d1, .int .i64 st] := by rw [hw2]; exact X1.flash3 rfl _ _ _
  have Y2 : Box w2 (w.heap.size + 1) 29 #[.slice none 0 0, .slice none 0 0, .int .i64 0] := by rw [hw2]; exact Y1.far3 (by omega) _ _ _
  have S2 : Hid (OwnI w2 w.heap.size w2.heap.size A1 zs) := Lib.hid (by rw [hw2]; exact (S1.out.far3 X1 _ _ _).wideB hb0.size (by rw [size3]; exact Nat.le_refl _))
  have R2 : Hid (OwnB w2 w.heap.size w2.heap.size C1 gs) := Lib.hid (by rw [hw2]; exact (R1.out.far3 X1 _ _ _).wide hb0.size (by rw [size3]; exact Nat.le_refl _))
  have hb2 : Below w.heap.size w w2 := by rw [hw2]; exact below3 (bt hb0 hb1) (Nat.le_refl _) _ _ _
  obtain ⟨bg, mg, fg, rfl, hcg, hfg, hlo, hhi, hrg, hput⟩ := R2.out.put k (by have := HLen.out; omega)
  generalize gs.getD k false = q at hcg
  have HPut := Lib.hid (And.intro hlo hput)
  have X3 := X2.other hrg (by decide) k (.bool true)
  have Y3 := Y2.other hrg (by decide) k (.bool true)
  have S3 := Lib.hid (S2.out.other hrg (by decide) k (.bool true))
  have x0 := X2.cell 0 rfl
  have x1 := X2.cell 1 rfl
  have u0 := X3.cell 0 rfl
  have u1 := X3.cell 1 rfl
  have u2 := X3.cell 2 rfl
  have t0 := Y3.cell 0 rfl
  have t1 := Y3.cell 1 rfl
  have t2 := Y3.cell 2 rfl
  have t0z := Y3.frozen 0
  have t1z := Y3.frozen 1
  have t2z := Y3.frozen 2
  have HYs := Lib.hid Y3
  have HB2 := Lib.hid (And.intro hb2 hw2)
  rw [hw2] at hcg hfg x0 x1 u0 u1 u2 t0 t1 t2 t0z t1z t2z
  clear X1 Y1 S1 R1 hb0 hb1 hw2 X2 Y2 hb2 hlo hhi hrg hput X3 Y3 HO HX HW0 fg
  go_wp2
  refine bodyPost_ret (v := .agg #[.slice A1 256 c1, .slice (some ⟨bg, 0, none⟩) 16 d1, .int .i64 st]) (by simp [results, Tryz.results151, go_sem, t0, t1, t2]) rfl ?_
  rw [← HB2.out.2]
  refine ⟨_, _, _, _, _, _, rfl, Lib.hid HLen.out.1, Lib.hid (by rw [List.length_set]; exact HLen.out.2), Lib.hid ?_, Lib.hid ?_, ?_⟩
  · exact (S3.out.far3 HYs.out _ _ _).wideB (Nat.le_refl _) (by rw [size3]; simp [World.setCell])
  · exact ((HPut.out.2 true).far3 HYs.out _ _ _).wide (Nat.le_refl _) (by rw [size3]; simp [World.setCell])
  · exact below3 (HB2.out.1.setCell (p := ⟨bg, k, none⟩) HPut.out.1 _) (by omega) _ _ _

set_option maxRecDepth 100000 in
set_option maxHeartbeats 4000000 in
theorem l03Erase (A C : Option Addr) (n c m d k : Nat) (st : Int) (zs : List Int) (gs : List Bool) (w : World) (hl : zs.length = n) (hm : gs.length = m) (hn : n = 256) (hmm : m = 16) (hk : k < 16) (h : IntL w A zs) (g : BoolL w C gs) :
    Calls Tryz.prog 153 #[.agg #[.slice A n c, .slice C m d, .int .i64 st], .int .i64 k] w (GivesFlash (eraseL zs gs k) gs st w) := by
  obtain ⟨W0, hW0⟩ : ∃ W0, W0 = ((w.alloc (.cells #[.slice A n c, .slice C m d, .int .i64 st] 29)).alloc (.cells #[.slice none 0 0, .slice none 0 0, .int .i64 0] 29)) := ⟨_, rfl⟩
  have hb0 : Below w.heap.size w W0 := by rw [hW0]; exact bt (alloc_below _ _) (alloc_below _ _)
  have X0 : Box W0 w.heap.size 29 #[.slice A n c, .slice C m d, .int .i64 st] := by rw [hW0]; exact (Box.new _ _ _).alloc _
  have Y0 : Box W0 (w.heap.size + 1) 29 #[.slice none 0 0, .slice none 0 0, .int .i64 0] := by rw [hW0]; simpa using Box.new (w.alloc (.cells #[.slice A n c, .slice C m d, .int .i64 st] 29)) 29 #[.slice none 0 0, .slice none 0 0, .int .i64 0]
  have HO := Lib.hid (l03Own A C n c m d st zs gs W0 hl hm hn hmm (h.below hb0) (g.below hb0))
  have HLen : Hid (zs.length = 256 ∧ gs.length = 16) := Lib.hid ⟨by omega, by omega⟩
  have HE : Hid (∀ q, gs.getD k false = q → eraseL zs gs k = if q then zs else fillR zs (k * 16) (k * 16 + 16)) := Lib.hid (by intro q hq; unfold eraseL; rw [hq])
  generalize eraseL zs gs k = r at HE
  have HX := Lib.hid (And.intro X0 Y0)
  have HW0 := Lib.hid hW0
  clear hl hm h g hW0 X0 Y0 hn hmm
  have hki : (k : Int) < 16 := by omega
  go_enter Tryz.func153, Tryz.ntmps153
  go_wp2_with fail
  rw [← HW0.out]
  refine HO.out.mono ?_
  rintro e w1 ⟨A1, n1, c1, C1, m1, d1, rfl, L1, M1, S1, R1, hb1⟩
  obtain rfl : n1 = 256 := by have := L1.out; have := HLen.out; omega
  obtain rfl : m1 = 16 := by have := M1.out; have := HLen.out; omega
  have X1 := HX.out.1.step hb1
  have Y1 := HX.out.2.step hb1
  have a0 := X1.cell 0 rfl
  have a1 := X1.cell 1 rfl
  have a2 := X1.cell 2 rfl
  have a0z := X1.frozen 0
  have a1z := X1.frozen 1
  have a2z := X1.frozen 2
  obtain ⟨w2, hw2⟩ : ∃ w2, w2 = ((w1.setCell ⟨w.heap.size, 0, none⟩ (.slice A1 256 c1)).setCell ⟨w.heap.size, 1, none⟩ (.slice C1 16 d1)).setCell ⟨w.heap.size, 2, none⟩ (.int .i64 st) := ⟨_, rfl⟩
  have X2 : Hid (Box w2 w.heap.size 29 #[.slice A1 256 c1, .slice C1 16 d1, .int .i64 st]) := Lib.hid (by rw [hw2]; exact X1.flash3 rfl _ _ _)
  have Y2 : Hid (Box w2 (w.heap.size + 1) 29 #[.slice none 0 0, .slice none 0 0, .int .i64 0]) := Lib.hid (by rw [hw2]; exact Y1.far3 (by omega) _ _ _)
  have S2 : Hid (OwnI w2 w.heap.size w2.heap.size A1 zs) := Lib.hid (by rw [hw2]; exact (S1.out.far3 X1 _ _ _).wideB hb0.size (by rw [size3]; exact Nat.le_refl _))
  have R2 : Hid (OwnB w2 w.heap.size w2.heap.size C1 gs) := Lib.hid (by rw [hw2]; exact (R1.out.far3 X1 _ _ _).wide hb0.size (by rw [size3]; exact Nat.le_refl _))
  have hb2 : Below w.heap.size w w2 := by rw [hw2]; exact below3 (bt hb0 hb1) (Nat.le_refl _) _ _ _
  have HW2 := Lib.hid hw2
  clear X1 Y1 S1 R1 hb0 hb1 hw2 HO HX HW0
  go_wp2
  rw [← HW2.out]
  clear a0 a1 a2 a0z a1z a2z HW2
  go_loopw [5] (fun i wr => ∃ j : Nat, j ≤ 16 ∧ i = .int .i64 j ∧ Hid (gs.getD k false = true → j = 0) ∧ Below w.heap.size w wr ∧ Hid (Box wr w.heap.size 29 #[.slice A1 256 c1, .slice C1 16 d1, .int .i64 st]) ∧ Hid (Box wr (w.heap.size + 1) 29 #[.slice none 0 0, .slice none 0 0, .int .i64 0]) ∧ Hid (OwnI wr w.heap.size wr.heap.size A1 (fillR zs (k * 16) (k * 16 + j))) ∧ Hid (OwnB wr w.heap.size wr.heap.size C1 gs)) (fun i _ => 16 - (intOf i).toNat)
  case atStart => exact ⟨0, by omega, rfl, Lib.hid (fun _ => rfl), hb2, X2, Y2, Lib.hid (by rw [Nat.add_zero, fillR_none]; exact S2.out), R2⟩
  case round =>
    clear hb2 X2 Y2 S2 R2
    obtain ⟨j, hj, rfl, HJ, hbw, X, Y, S, R⟩ := hrel
    have x0 := X.out.cell 0 rfl
    have x1 := X.out.cell 1 rfl
    have x2 := X.out.cell 2 rfl
    have y0 := Y.out.cell 0 rfl
    have y1 := Y.out.cell 1 rfl
    have y2 := Y.out.cell 2 rfl
    have y0z := Y.out.frozen 0
    have y1z := Y.out.frozen 1
    have y2z := Y.out.frozen 2
    obtain ⟨bg, mg, fg, rfl, hcg, -, -, -, -, -⟩ := R.out.put k (by have := HLen.out; omega)
    have HE2 := Lib.hid (HE.out _ rfl)
    generalize gs.getD k false = q at hcg HE2 HJ
    cases q
    · by_cases hlt : j < 16
      · obtain ⟨ba, ma, fa, rfl, hca, hfa, hlo, hhi, hra, hput⟩ := S.out.put (k * 16 + j) (by rw [fillR_len]; have := HLen.out; omega)
        generalize (fillR zs (k * 16) (k * 16 + j)).getD (k * 16 + j) 0 = z at hca
        have hq := hput 255
        rw [fillR_next _ _ _ (by omega) (by have := HLen.out; omega)] at hq
        have HQ := Lib.hid hq
        have HX := Lib.hid (X.out.other hra (by decide) (k * 16 + j) (.int .i64 255))
        have HY := Lib.hid (Y.out.other hra (by decide) (k * 16 + j) (.int .i64 255))
        have HR := Lib.hid (R.out.other hra (by decide) (k * 16 + j) (.int .i64 255))
        have hb' : Below w.heap.size w (wr.setCell ⟨ba, k * 16 + j, none⟩ (.int .i64 255)) := hbw.setCell (p := ⟨ba, k * 16 + j, none⟩) hlo _
        have hi : (j : Int) < 16 := by omega
        have hidx : (k : Int) * 16 + (j : Int) < 256 := by omega
        clear hq hput hra hlo hhi X Y S R fa fg HE2 hbw
        go_wp2
        go_roundw
        case rel => exact ⟨j + 1, by omega, by go_num, Lib.hid (fun e => by cases e), hb', HX, HY, Lib.hid (HQ.out.wideB (Nat.le_refl _) (by simp [World.setCell])), Lib.hid (HR.out.wide (Nat.le_refl _) (by simp [World.setCell]))⟩
        case measure => simp [intOf]; omega
      · obtain rfl : j = 16 := by omega
        have HEr : Hid (r = fillR zs (k * 16) (k * 16 + 16)) := Lib.hid (by rw [HE2.out]; rfl)
        clear HE2 HE HJ
        go_wp2
        refine bodyPost_ret (v := .agg #[.slice A1 256 c1, .slice (some ⟨bg, 0, none⟩) 16 d1, .int .i64 st]) (by simp [results, Tryz.results153, go_sem, y0, y1, y2]) rfl ?_
        rw [HEr.out]
        refine ⟨_, _, _, _, _, _, rfl, Lib.hid (by rw [fillR_len]; exact HLen.out.1), Lib.hid HLen.out.2, Lib.hid ?_, Lib.hid ?_, ?_⟩
        · exact (S.out.far3 Y.out _ _ _).wideB (Nat.le_refl _) (by rw [size3]; exact Nat.le_refl _)
        · exact (R.out.far3 Y.out _ _ _).wide (Nat.le_refl _) (by rw [size3]; exact Nat.le_refl _)
        · exact below3 hbw (by omega) _ _ _
    · obtain rfl : j = 0 := HJ.out rfl
      have HEr : Hid (r = zs) := Lib.hid (by rw [HE2.out]; rfl)
      have S' : Hid (OwnI wr w.heap.size wr.heap.size A1 zs) := Lib.hid (by have := S.out; rwa [Nat.add_zero, fillR_none] at this)
      clear HE2 HE HJ S
      go_wp2
      refine bodyPost_ret (v := .agg #[.slice A1 256 c1, .slice (some ⟨bg, 0, none⟩) 16 d1, .int .i64 st]) (by simp [results, Tryz.results153, go_sem, y0, y1, y2]) rfl ?_
      rw [HEr.out]
      refine ⟨_, _, _, _, _, _, rfl, Lib.hid HLen.out.1, Lib.hid HLen.out.2, Lib.hid ?_, Lib.hid ?_, ?_⟩
      · exact (S'.out.far3 Y.out _ _ _).wideB (Nat.le_refl _) (by rw [size3]; exact Nat.le_refl _)
      · exact (R.out.far3 Y.out _ _ _).wide (Nat.le_refl _) (by rw [size3]; exact Nat.le_refl _)
      · exact below3 hbw (by omega) _ _ _
end Go.Proofs.YtophgbjbinaekaaGreatDoor

/- What the functions that hand back a flash and a code answer; the model's ProgramCell, EraseBlock, GuardBlock. -/
namespace Go.Proofs.YtophgbjbinaekaaGreatDoor
open Go.RowKit

theorem progL_range {zs : List Int} {gs : List Bool} {k v : Nat} (h : ∀ z ∈ zs, 0 ≤ z ∧ z ≤ 255) (hv : v < 256) : ∀ z ∈ progL zs gs k v, 0 ≤ z ∧ z ≤ 255 := by
  intro z hz
  unfold progL at hz
  split at hz
  · exact h z hz
  · rcases List.mem_or_eq_of_mem_set hz with q | rfl
    · exact h z q
    · have := and_lt v (zs.getD k 0).toNat hv
      rw [Nat.and_comm] at this
      omega
theorem fillR_range {zs : List Int} (h : ∀ z ∈ zs, 0 ≤ z ∧ z ≤ 255) (a b : Nat) : ∀ z ∈ fillR zs a b, 0 ≤ z ∧ z ≤ 255 := by
  intro z hz
  unfold fillR at hz
  obtain ⟨i, hi, rfl⟩ := List.mem_map.1 hz
  have hi' : i < zs.length := by simpa using hi
  split
  · omega
  · exact h _ (by rw [List.getD_eq_getElem?_getD, List.getElem?_eq_getElem hi']; exact List.getElem_mem _)
theorem eraseL_range {zs : List Int} {gs : List Bool} {b : Nat} (h : ∀ z ∈ zs, 0 ≤ z ∧ z ≤ 255) : ∀ z ∈ eraseL zs gs b, 0 ≤ z ∧ z ≤ 255 := by
  intro z hz
  unfold eraseL at hz
  split at hz
  · exact h z hz
  · exact fillR_range h _ _ z hz
end Go.Proofs.YtophgbjbinaekaaGreatDoor

/- Contracts of Flash.identify, l01Bit, l03Read and both BusRead. -/
namespace Go.Proofs.YtophgbjbinaekaaGreatDoor
open Go.RowKit

def readV (zs : List Int) (gs : List Bool) (st : Int) (n : Nat) : Int :=
  if st = 7 then (if n % 4 = 0 then 32 else if n % 4 = 1 then 47 else if n % 4 = 2 then (if gs.getD (n / 16) false then 1 else 0) else 255) else zs.getD n 0
set_option maxRecDepth 100000 in
theorem l01Bit (q : Bool) (w : World) : Calls Tryz.prog 139 #[.bool q] w fun e w' => e = .returned (.int .i64 (if q then 1 else 0)) ∧ w = w' := by
  cases q <;> (go_enter Tryz.func139, Tryz.ntmps139; go_wp2; go_ret; exact ⟨rfl, rfl⟩)

set_option maxRecDepth 100000 in
theorem l03Read (A C : Option Addr) (n c d k : Nat) (st : Int) (zs : List Int) (gs : List Bool) (w : World) (hl : zs.length = n) (hn : n = 256) (hm : gs.length = 16) (hk : k ≤ 255) (h : IntL w A zs) (g : BoolL w C gs) :
    Calls Tryz.prog 135 #[.agg #[.slice A n c, .slice C 16 d, .int .i64 st], .int .i64 k] w fun e w' => e = .returned (.int .i64 (readV zs gs st k)) ∧ Below w.heap.size w w' := by
  have hb0 := alloc_below w (.cells #[.slice A n c, .slice C 16 d, .int .i64 st] 29)
  have hdiv : k / 16 < 16 := by omega
  have hki : (k : Int) < (n : Int) := by omega
  by_cases h7 : st = 7
  · subst h7
    obtain ⟨b, off, rfl, hc⟩ := (g.below hb0) (k / 16) (by omega)
    have HR : Hid (∀ q, q = gs.getD (k / 16) false → readV zs gs 7 k = if k % 4 = 0 then 32 else if k % 4 = 1 then 47 else if k % 4 = 2 then (if q then 1 else 0) else 255) := Lib.hid (by intro q hq; subst hq; unfold readV; rw [if_pos rfl])
    generalize readV zs gs 7 k = r at HR
    have HR2 := Lib.hid (HR.out _ rfl)
    generalize gs.getD (k / 16) false = q at hc HR2
    have h4 : k % 4 = 0 ∨ k % 4 = 1 ∨ k % 4 = 2 ∨ k % 4 = 3 := by omega
    have ha := and_3 k (by omega)
    have hdi : ((k / 16 : Nat) : Int) < 16 := by omega
    clear hm g HR hl hn h
    rcases h4 with h4 | h4 | h4 | h4
    · have e : r = 32 := by rw [HR2.out, if_pos h4]
      rw [h4] at ha
      clear HR2 h4
      subst e
      go_enter Tryz.func135, Tryz.ntmps135
      go_wp2
      go_ret
      exact ⟨rfl, hb0⟩
    · have e : r = 47 := by rw [HR2.out, if_neg (by omega), if_pos h4]
      rw [h4] at ha
      clear HR2 h4
      subst e
      go_enter Tryz.func135, Tryz.ntmps135
      go_wp2
      go_ret
      exact ⟨rfl, hb0⟩
    · have e : r = if q then 1 else 0 := by rw [HR2.out, if_neg (by omega), if_neg (by omega), if_pos h4]
      rw [h4] at ha
      have HE := Lib.hid e
      clear HR2 h4 e
      cases q <;> (
        go_enter Tryz.func135, Tryz.ntmps135
        go_wp2_with (first | (go_at_call 139; refine (l01Bit _ _).mono ?_; rintro e w' ⟨rfl, rfl⟩))
        go_ret
        exact ⟨ret_int HE.out.symm, hb0⟩)
    · have e : r = 255 := by rw [HR2.out, if_neg (by omega), if_neg (by omega), if_neg (by omega)]
      rw [h4] at ha
      clear HR2 h4
      subst e
      go_enter Tryz.func135, Tryz.ntmps135
      go_wp2
      go_ret
      exact ⟨rfl, hb0⟩
  · have hq7 : (st != 7) = true := by simp [h7]
    obtain ⟨b, off, rfl, hc⟩ := (h.below hb0) k (by omega)
    have HE : Hid (readV zs gs st k = zs.getD k 0) := Lib.hid (by unfold readV; rw [if_neg h7])
    generalize readV zs gs st k = r at HE
    generalize zs.getD k 0 = z at hc HE
    clear hm g hl hn h h7
    go_enter Tryz.func135, Tryz.ntmps135
    go_wp2
    go_ret
    exact ⟨ret_int HE.out.symm, hb0⟩

end Go.Proofs.YtophgbjbinaekaaGreatDoor

/- Leaves of Go values as data: what a value says, rows of the call's own, what a call that writes into some of them keeps. Nothing here is of one type of the program. -/
namespace Go.Proofs.YtophgbjbinaekaaGreatDoor
open Go.RowKit

inductive Lf where
  | I (zs : List Int)
  | B (gs : List Bool)
  | S (ss : List ByteArray)
  | R (T : TypeId) (k : Nat) (hk : k ≤ 16) (rows : List (List Value))

def RowL (w : World) (A : Option Addr) (k : Nat) (rows : List (List Value)) : Prop :=
  ∀ i, i < rows.length → ∀ j, j < k → ∃ b off, A = some ⟨b, off, none⟩ ∧ w.cell? ⟨b, off + i * k + j, none⟩ = some ((rows.getD i []).getD j undef)
theorem RowL.below {w w' : World} {A : Option Addr} {k : Nat} {rows : List (List Value)} (h : RowL w A k rows) (hb : Below w.heap.size w w') : RowL w' A k rows := fun i hi j hj => by
  obtain ⟨b, off, e, hc⟩ := h i hi j hj
  exact ⟨b, off, e, (hb.cell (cell_lt hc)).trans hc⟩
def OwnR (w : World) (lo hi : Nat) (T : TypeId) (A : Option Addr) (k : Nat) (rows : List (List Value)) : Prop :=
  rows = [] ∨ ∃ b m f, A = some ⟨b, 0, none⟩ ∧ lo ≤ b ∧ b < hi ∧ rows.length * k ≤ m ∧ w.rowIs b T m f ∧ ∀ i, i < rows.length → ∀ j, j < k → f (i * k + j) = (rows.getD i []).getD j undef
theorem row_place {n k m i j : Nat} (hi : i < n) (hj : j < k) (h : n * k ≤ m) : i * k + j < m := by
  have h1 : (i + 1) * k ≤ n * k := Nat.mul_le_mul_right k hi
  have h2 : (i + 1) * k = i * k + k := Nat.succ_mul i k
  omega
theorem OwnR.reads {w : World} {lo hi : Nat} {T : TypeId} {A : Option Addr} {k : Nat} {rows : List (List Value)} (h : OwnR w lo hi T A k rows) : RowL w A k rows := fun i hi' j hj => by
  rcases h with rfl | ⟨b, m, f, e, _, _, hm, hr, hf⟩
  · simp at hi'
  · exact ⟨b, 0, e, by rw [← hf i hi' j hj, Nat.zero_add]; exact hr.cell (row_place hi' hj hm)⟩
theorem OwnR.btw {w w' : World} {lo hi l h' : Nat} {T : TypeId} {A : Option Addr} {k : Nat} {rows : List (List Value)} (h : OwnR w lo hi T A k rows) (hb : Btw l h' w w') (ho : hi ≤ l ∨ h' ≤ lo) : OwnR w' lo hi T A k rows := by
  rcases h with e | ⟨b, m, f, e, h1, h2, hm, hr, hf⟩
  · exact .inl e
  · exact .inr ⟨b, m, f, e, h1, h2, hm, hb.row hr (by omega), hf⟩
theorem OwnR.below {w w' : World} {lo hi : Nat} {T : TypeId} {A : Option Addr} {k : Nat} {rows : List (List Value)} (h : OwnR w lo hi T A k rows) (hb : Below w.heap.size w w') : OwnR w' lo hi T A k rows := h.btw (Btw.of_below hb hi hi) (.inl (Nat.le_refl _))
theorem OwnR.wide {w : World} {lo hi lo' hi' : Nat} {T : TypeId} {A : Option Addr} {k : Nat} {rows : List (List Value)} (h : OwnR w lo hi T A k rows) (h1 : lo' ≤ lo) (h2 : hi ≤ hi') : OwnR w lo' hi' T A k rows := by
  rcases h with e | ⟨b, m, f, e, p1, p2, hm, hr, hf⟩
  · exact .inl e
  · exact .inr ⟨b, m, f, e, by omega, by omega, hm, hr, hf⟩
def markV (k : Nat) : Value → Value
  | .int _ _ => .int .i64 (k : Int)
  | .bool _ => .bool (decide (k % 3 = 0))
  | .string _ => .string (mkText k)
  | v => v
def markRows (q k : Nat) (rows : List (List Value)) : List (List Value) :=
  (List.range rows.length).map fun i => (List.range k).map fun j => markV (q + i * k + j) ((rows.getD i []).getD j undef)
def Lf.len : Lf → Nat
  | .I zs => zs.length
  | .B gs => gs.length
  | .S ss => ss.length
  | .R _ k _ rows => rows.length * k
def Lf.slen : Lf → Nat
  | .I zs => zs.length
  | .B gs => gs.length
  | .S ss => ss.length
  | .R _ _ _ rows => rows.length
def Lf.sz : Lf → Nat
  | .I zs => zs.length
  | .B gs => gs.length
  | .S ss => ss.length + lenS ss
  | .R _ _ _ rows => rows.length
def Lf.marks (k : Nat) : Lf → Lf
  | .I zs => .I (marksI k zs.length)
  | .B gs => .B (marksB k gs.length)
  | .S ss => .S (marksS k ss.length)
  | .R T n hn rows => .R T n hn (markRows k n rows)
theorem Lf.len_le (d : Lf) : d.len ≤ 16 * d.sz := by
  cases d with
  | I zs => simp only [Lf.len, Lf.sz]; omega
  | B zs => simp only [Lf.len, Lf.sz]; omega
  | S zs => simp only [Lf.len, Lf.sz]; omega
  | R T k hk rows =>
    simp only [Lf.len, Lf.sz]
    have := Nat.mul_le_mul_left rows.length hk
    omega
def Lf.fit : Lf → Prop
  | .I zs => zs.length ≤ maxLen
  | .B gs => gs.length ≤ maxLen
  | .S ss => ss.length ≤ maxLen ∧ FitS ss
  | .R _ _ _ rows => rows.length ≤ maxLen

def RepL (w : World) (v : Value) : Lf → Prop
  | .I zs => ∃ A c, v = .slice A zs.length c ∧ IntL w A zs
  | .B gs => ∃ A c, v = .slice A gs.length c ∧ BoolL w A gs
  | .S ss => ∃ A c, v = .slice A ss.length c ∧ StrL w A ss
  | .R _ k _ rows => ∃ A c, v = .slice A rows.length c ∧ RowL w A k rows
def OwnL (w : World) (lo hi : Nat) (v : Value) : Lf → Prop
  | .I zs => ∃ A c, v = .slice A zs.length c ∧ OwnI w lo hi A zs
  | .B gs => ∃ A c, v = .slice A gs.length c ∧ OwnB w lo hi A gs
  | .S ss => ∃ A c, v = .slice A ss.length c ∧ OwnS w lo hi A ss
  | .R T k _ rows => ∃ A c, v = .slice A rows.length c ∧ OwnR w lo hi T A k rows
def CapL (v : Value) : Prop := ∀ A n c, v = .slice A n c → n ≤ c
def blkL : Value → Option Nat
  | .slice (some a) n _ => if n = 0 then none else some a.block
  | _ => none
theorem blkL_some {b off : Nat} {n c : Nat} (h : 0 < n) : blkL (.slice (some ⟨b, off, none⟩) n c) = some b := by simp [blkL]; omega
theorem blkL_zero (A : Option Addr) (c : Nat) : blkL (.slice A 0 c) = none := by cases A <;> simp [blkL]

def AllA (P : Value → Lf → Prop) : List Value → List Lf → Prop
  | [], [] => True
  | v :: vs, d :: ds => P v d ∧ AllA P vs ds
  | _, _ => False
def RepA (w : World) (vs : List Value) (ds : List Lf) : Prop := AllA (RepL w) vs ds
def OwnA (w : World) (lo hi : Nat) (vs : List Value) (ds : List Lf) : Prop := AllA (OwnL w lo hi) vs ds ∧ (vs.filterMap blkL).Nodup

theorem AllA.imp {P Q : Value → Lf → Prop} : ∀ {vs : List Value} {ds : List Lf}, (∀ v d, v ∈ vs → P v d → Q v d) → AllA P vs ds → AllA Q vs ds
  | [], [], _, _ => trivial
  | v :: vs, d :: ds, h, ⟨h1, h2⟩ => ⟨h v d (by simp) h1, AllA.imp (fun v' d' hm => h v' d' (by simp [hm])) h2⟩
  | [], _ :: _, _, h => h.elim
  | _ :: _, [], _, h => h.elim

theorem RepL.below {w w' : World} {v : Value} : ∀ {d : Lf}, RepL w v d → Below w.heap.size w w' → RepL w' v d
  | .I _, ⟨A, c, e, h⟩, hb => ⟨A, c, e, h.below hb⟩
  | .B _, ⟨A, c, e, h⟩, hb => ⟨A, c, e, h.below hb⟩
  | .S _, ⟨A, c, e, h⟩, hb => ⟨A, c, e, h.below hb⟩
  | .R _ _ _ _, ⟨A, c, e, h⟩, hb => ⟨A, c, e, h.below hb⟩
theorem RepA.below {w w' : World} {vs : List Value} {ds : List Lf} (h : RepA w vs ds) (hb : Below w.heap.size w w') : RepA w' vs ds := AllA.imp (fun _ _ _ h => h.below hb) h
theorem OwnL.below {w w' : World} {lo hi : Nat} {v : Value} : ∀ {d : Lf}, OwnL w lo hi v d → Below w.heap.size w w' → OwnL w' lo hi v d
  | .I _, ⟨A, c, e, h⟩, hb => ⟨A, c, e, h.below hb⟩
  | .B _, ⟨A, c, e, h⟩, hb => ⟨A, c, e, h.below hb⟩
  | .S _, ⟨A, c, e, h⟩, hb => ⟨A, c, e, h.below hb⟩
  | .R _ _ _ _, ⟨A, c, e, h⟩, hb => ⟨A, c, e, h.below hb⟩
theorem OwnL.btw {w w' : World} {lo hi l r : Nat} {v : Value} : ∀ {d : Lf}, OwnL w lo hi v d → Btw l r w w' → (hi ≤ l ∨ r ≤ lo) → OwnL w' lo hi v d
  | .I _, ⟨A, c, e, h⟩, hb, ho => ⟨A, c, e, h.btw hb ho⟩
  | .B _, ⟨A, c, e, h⟩, hb, ho => ⟨A, c, e, h.btw hb ho⟩
  | .S _, ⟨A, c, e, h⟩, hb, ho => ⟨A, c, e, h.btw hb ho⟩
  | .R _ _ _ _, ⟨A, c, e, h⟩, hb, ho => ⟨A, c, e, h.btw hb ho⟩
theorem OwnL.wide {w : World} {lo hi lo' hi' : Nat} {v : Value} : ∀ {d : Lf}, OwnL w lo hi v d → lo' ≤ lo → hi ≤ hi' → OwnL w lo' hi' v d
  | .I _, ⟨A, c, e, h⟩, h1, h2 => ⟨A, c, e, h.wideB h1 h2⟩
  | .B _, ⟨A, c, e, h⟩, h1, h2 => ⟨A, c, e, h.wide h1 h2⟩
  | .S _, ⟨A, c, e, h⟩, h1, h2 => ⟨A, c, e, h.wide h1 h2⟩
  | .R _ _ _ _, ⟨A, c, e, h⟩, h1, h2 => ⟨A, c, e, h.wide h1 h2⟩
theorem OwnL.reads {w : World} {lo hi : Nat} {v : Value} : ∀ {d : Lf}, OwnL w lo hi v d → RepL w v d
  | .I _, ⟨A, c, e, h⟩ => ⟨A, c, e, h.reads⟩
  | .B _, ⟨A, c, e, h⟩ => ⟨A, c, e, h.reads⟩
  | .S _, ⟨A, c, e, h⟩ => ⟨A, c, e, h.reads⟩
  | .R _ _ _ _, ⟨A, c, e, h⟩ => ⟨A, c, e, h.reads⟩
theorem OwnL.form {w : World} {lo hi : Nat} {v : Value} : ∀ {d : Lf}, OwnL w lo hi v d → ∃ A c, v = .slice A d.slen c
  | .I _, ⟨A, c, e, _⟩ => ⟨A, c, e⟩
  | .B _, ⟨A, c, e, _⟩ => ⟨A, c, e⟩
  | .S _, ⟨A, c, e, _⟩ => ⟨A, c, e⟩
  | .R _ _ _ _, ⟨A, c, e, _⟩ => ⟨A, c, e⟩
theorem RepL.form {w : World} {v : Value} : ∀ {d : Lf}, RepL w v d → ∃ A c, v = .slice A d.slen c
  | .I _, ⟨A, c, e, _⟩ => ⟨A, c, e⟩
  | .B _, ⟨A, c, e, _⟩ => ⟨A, c, e⟩
  | .S _, ⟨A, c, e, _⟩ => ⟨A, c, e⟩
  | .R _ _ _ _, ⟨A, c, e, _⟩ => ⟨A, c, e⟩
theorem OwnA.below {w w' : World} {lo hi : Nat} {vs : List Value} {ds : List Lf} (h : OwnA w lo hi vs ds) (hb : Below w.heap.size w w') : OwnA w' lo hi vs ds := ⟨AllA.imp (fun _ _ _ h => h.below hb) h.1, h.2⟩
theorem OwnA.btw {w w' : World} {lo hi l r : Nat} {vs : List Value} {ds : List Lf} (h : OwnA w lo hi vs ds) (hb : Btw l r w w') (ho : hi ≤ l ∨ r ≤ lo) : OwnA w' lo hi vs ds := ⟨AllA.imp (fun _ _ _ h => h.btw hb ho) h.1, h.2⟩
theorem OwnA.wide {w : World} {lo hi lo' hi' : Nat} {vs : List Value} {ds : List Lf} (h : OwnA w lo hi vs ds) (h1 : lo' ≤ lo) (h2 : hi ≤ hi') : OwnA w lo' hi' vs ds := ⟨AllA.imp (fun _ _ _ h => h.wide h1 h2) h.1, h.2⟩
theorem OwnA.reads {w : World} {lo hi : Nat} {vs : List Value} {ds : List Lf} (h : OwnA w lo hi vs ds) : RepA w vs ds := AllA.imp (fun _ _ _ h => h.reads) h.1

structure Touch (vs : List Value) (w w' : World) : Prop where
  os : w'.os = w.os
  tape : w'.tape = w.tape
  output : w'.output = w.output
  size : w.heap.size ≤ w'.heap.size
  block : ∀ k, k < w.heap.size → k ∉ vs.filterMap blkL → w'.heap[k]? = w.heap[k]?
theorem Touch.refl (vs : List Value) (w : World) : Touch vs w w := ⟨rfl, rfl, rfl, Nat.le_refl _, fun _ _ _ => rfl⟩
theorem Touch.trans {vs us : List Value} {a b c : World} (h : Touch vs a b) (k : Touch us b c) : Touch (vs ++ us) a c :=
  ⟨k.os.trans h.os, k.tape.trans h.tape, k.output.trans h.output, Nat.le_trans h.size k.size, fun i hi hn => by
    rw [List.filterMap_append, List.mem_append] at hn
    exact (k.block i (Nat.lt_of_lt_of_le hi h.size) (fun h => hn (.inr h))).trans (h.block i hi (fun h => hn (.inl h)))⟩
theorem Touch.of_below {w w' : World} (h : Below w.heap.size w w') (vs : List Value) : Touch vs w w' := ⟨h.os, h.tape, h.output, h.size, fun k hk _ => h.block k hk⟩
theorem Touch.more {vs us : List Value} {w w' : World} (h : Touch vs w w') (hs : ∀ k, k ∈ vs.filterMap blkL → k ∈ us.filterMap blkL) : Touch us w w' := ⟨h.os, h.tape, h.output, h.size, fun k hk hn => h.block k hk (fun h => hn (hs k h))⟩
theorem OwnL.blk {w : World} {lo hi : Nat} {v : Value} {b : Nat} (hb : blkL v = some b) : ∀ {d : Lf}, OwnL w lo hi v d → lo ≤ b ∧ b < hi
  | .I zs, ⟨A, c, e, h⟩ => by
    subst e
    rcases h with rfl | ⟨g, m, f, rfl, h1, h2, _⟩
    · rw [List.length_nil, blkL_zero] at hb; cases hb
    · rcases Nat.eq_zero_or_pos zs.length with hz | hz
      · rw [hz, blkL_zero] at hb; cases hb
      · rw [blkL_some hz] at hb; injection hb with hb; subst hb; exact ⟨h1, h2⟩
  | .B zs, ⟨A, c, e, h⟩ => by
    subst e
    rcases h with rfl | ⟨g, m, f, rfl, h1, h2, _⟩
    · rw [List.length_nil, blkL_zero] at hb; cases hb
    · rcases Nat.eq_zero_or_pos zs.length with hz | hz
      · rw [hz, blkL_zero] at hb; cases hb
      · rw [blkL_some hz] at hb; injection hb with hb; subst hb; exact ⟨h1, h2⟩
  | .S zs, ⟨A, c, e, h⟩ => by
    subst e
    rcases h with rfl | ⟨g, m, f, rfl, h1, h2, _⟩
    · rw [List.length_nil, blkL_zero] at hb; cases hb
    · rcases Nat.eq_zero_or_pos zs.length with hz | hz
      · rw [hz, blkL_zero] at hb; cases hb
      · rw [blkL_some hz] at hb; injection hb with hb; subst hb; exact ⟨h1, h2⟩
  | .R _ _ _ zs, ⟨A, c, e, h⟩ => by
    subst e
    rcases h with rfl | ⟨g, m, f, rfl, h1, h2, _⟩
    · rw [List.length_nil, blkL_zero] at hb; cases hb
    · rcases Nat.eq_zero_or_pos zs.length with hz | hz
      · rw [hz, blkL_zero] at hb; cases hb
      · rw [blkL_some hz] at hb; injection hb with hb; subst hb; exact ⟨h1, h2⟩
theorem AllA.mem {P : Value → Lf → Prop} : ∀ {vs : List Value} {ds : List Lf} {v : Value}, AllA P vs ds → v ∈ vs → ∃ d, P v d
  | v :: vs, d :: ds, u, ⟨h1, h2⟩, hm => by
    rcases List.mem_cons.1 hm with rfl | hm
    · exact ⟨d, h1⟩
    · exact AllA.mem h2 hm
  | [], [], _, _, hm => by cases hm
theorem OwnA.blk {w : World} {lo hi : Nat} {vs : List Value} {ds : List Lf} (h : OwnA w lo hi vs ds) {b : Nat} (hb : b ∈ vs.filterMap blkL) : lo ≤ b ∧ b < hi := by
  obtain ⟨v, hv, he⟩ := List.mem_filterMap.1 hb
  obtain ⟨d, hd⟩ := h.1.mem hv
  exact hd.blk he
theorem Touch.btw {w w' : World} {lo hi : Nat} {vs : List Value} {ds : List Lf} (h : OwnA w lo hi vs ds) (t : Touch vs w w') : Btw lo hi w w' :=
  ⟨t.os, t.tape, t.output, t.size, fun k hk ho => t.block k hk (fun hm => by have := h.blk hm; omega)⟩
theorem OwnL.away {w w' : World} {lo hi : Nat} {v : Value} {us : List Value} (t : Touch us w w') (hn : ∀ b, blkL v = some b → b ∉ us.filterMap blkL) : ∀ {d : Lf}, OwnL w lo hi v d → OwnL w' lo hi v d
  | .I zs, ⟨A, c, e, h⟩ => by
    refine ⟨A, c, e, ?_⟩
    rcases h with h | ⟨g, m, f, rfl, h1, h2, hm, hr, hf⟩
    · exact .inl h
    · by_cases hz : zs = []
      · exact .inl hz
      · exact .inr ⟨g, m, f, rfl, h1, h2, hm, hr.of_block (t.block g hr.lt (hn g (by rw [e]; exact blkL_some (List.length_pos_iff.2 hz)))), hf⟩
  | .B zs, ⟨A, c, e, h⟩ => by
    refine ⟨A, c, e, ?_⟩
    rcases h with h | ⟨g, m, f, rfl, h1, h2, hm, hr, hf⟩
    · exact .inl h
    · by_cases hz : zs = []
      · exact .inl hz
      · exact .inr ⟨g, m, f, rfl, h1, h2, hm, hr.of_block (t.block g hr.lt (hn g (by rw [e]; exact blkL_some (List.length_pos_iff.2 hz)))), hf⟩
  | .S zs, ⟨A, c, e, h⟩ => by
    refine ⟨A, c, e, ?_⟩
    rcases h with h | ⟨g, m, f, rfl, h1, h2, hm, hr, hf⟩
    · exact .inl h
    · by_cases hz : zs = []
      · exact .inl hz
      · exact .inr ⟨g, m, f, rfl, h1, h2, hm, hr.of_block (t.block g hr.lt (hn g (by rw [e]; exact blkL_some (List.length_pos_iff.2 hz)))), hf⟩
  | .R _ _ _ zs, ⟨A, c, e, h⟩ => by
    refine ⟨A, c, e, ?_⟩
    rcases h with h | ⟨g, m, f, rfl, h1, h2, hm, hr, hf⟩
    · exact .inl h
    · by_cases hz : zs = []
      · exact .inl hz
      · exact .inr ⟨g, m, f, rfl, h1, h2, hm, hr.of_block (t.block g hr.lt (hn g (by rw [e]; exact blkL_some (List.length_pos_iff.2 hz)))), hf⟩
theorem OwnA.away {w w' : World} {lo hi : Nat} {vs us : List Value} {ds : List Lf} (t : Touch us w w') (hn : ∀ b, b ∈ vs.filterMap blkL → b ∉ us.filterMap blkL) (h : OwnA w lo hi vs ds) : OwnA w' lo hi vs ds :=
  ⟨AllA.imp (fun v _ hv h => h.away t (fun b hb => hn b (List.mem_filterMap.2 ⟨v, hv, hb⟩))) h.1, h.2⟩
theorem OwnA.cons {w : World} {lo hi : Nat} {v : Value} {vs : List Value} {d : Lf} {ds : List Lf} (h1 : OwnL w lo hi v d) (h2 : OwnA w lo hi vs ds) (hn : ∀ b, blkL v = some b → b ∉ vs.filterMap blkL) : OwnA w lo hi (v :: vs) (d :: ds) := by
  refine ⟨⟨h1, h2.1⟩, ?_⟩
  rw [List.filterMap_cons]
  cases hb : blkL v with
  | none => exact h2.2
  | some b => exact List.nodup_cons.2 ⟨hn b hb, h2.2⟩
theorem OwnA.nil (w : World) (lo hi : Nat) : OwnA w lo hi [] [] := ⟨trivial, List.nodup_nil⟩
theorem OwnA.append {w : World} {lo hi lo' hi' L R : Nat} {vs us : List Value} {ds es : List Lf} (h : OwnA w lo hi vs ds) (k : OwnA w lo' hi' us es) (ho : hi ≤ lo' ∨ hi' ≤ lo) (h1 : L ≤ lo) (h2 : L ≤ lo') (h3 : hi ≤ R) (h4 : hi' ≤ R) : OwnA w L R (vs ++ us) (ds ++ es) := by
  have aux : ∀ {vs : List Value} {ds : List Lf}, AllA (OwnL w L R) vs ds → AllA (OwnL w L R) us es → AllA (OwnL w L R) (vs ++ us) (ds ++ es) := by
    intro vs
    induction vs with
    | nil => intro ds a b; cases ds with
      | nil => exact b
      | cons d ds => exact a.elim
    | cons v vs ih => intro ds a b; cases ds with
      | nil => exact a.elim
      | cons d ds => exact ⟨a.1, ih a.2 b⟩
  refine ⟨aux (h.wide h1 h3).1 (k.wide h2 h4).1, ?_⟩
  rw [List.filterMap_append, List.nodup_append]
  refine ⟨h.2, k.2, fun a ha b hb e => ?_⟩
  subst e
  have := h.blk ha
  have := k.blk hb
  omega
end Go.Proofs.YtophgbjbinaekaaGreatDoor
