/- The contract of chipOf: a flash as a chip. -/
import Derived.Test.YtieljgoodmoacaaChipOps
import Derived.Laws.CopyOwn
import Derived.Deep.RegionHeld3
namespace Go.Proofs.Ytieljgoodmoacaa
open Go.RowKit

/-- The first j of zs, then zeros. -/
def takeZ (zs : List Int) (j : Nat) : List Int := (List.range 256).map fun i => if i < j then zs.getD i 0 else 0
theorem takeZ_len (zs : List Int) (j : Nat) : (takeZ zs j).length = 256 := by simp [takeZ]
theorem takeZ_at (zs : List Int) (j i : Nat) (h : i < 256) : (takeZ zs j).getD i 0 = if i < j then zs.getD i 0 else 0 := by
  unfold takeZ
  rw [List.getD_eq_getElem?_getD, List.getElem?_map, List.getElem?_range h]
  rfl
theorem takeZ_zero (zs : List Int) : takeZ zs 0 = zZ := by
  apply ext_getD 0 (by rw [takeZ_len, zZ_len])
  intro i hi
  rw [takeZ_len] at hi
  rw [takeZ_at _ _ _ hi, if_neg (by omega)]
  unfold zZ
  rw [List.getD_eq_getElem?_getD, List.getElem?_replicate, if_pos hi]
  rfl
theorem takeZ_all (zs : List Int) (h : zs.length = 256) : takeZ zs 256 = zs := by
  apply ext_getD 0 (by rw [takeZ_len, h])
  intro i hi
  rw [takeZ_len] at hi
  rw [takeZ_at _ _ _ hi, if_pos hi]
theorem takeZ_next (zs : List Int) (j : Nat) (hj : j < 256) : (takeZ zs j).set j (zs.getD j 0) = takeZ zs (j + 1) := by
  apply ext_getD 0 (by simp [takeZ_len])
  intro i hi
  have hi' : i < 256 := by simpa [takeZ_len] using hi
  rw [takeZ_at _ _ _ hi']
  by_cases e : i = j
  · subst e
    rw [List.getD_eq_getElem?_getD, List.getElem?_set_self (by rw [takeZ_len]; exact hj), if_pos (by omega)]
    rfl
  · rw [List.getD_eq_getElem?_getD, List.getElem?_set_ne (fun q => e q.symm), ← List.getD_eq_getElem?_getD, takeZ_at _ _ _ hi']
    by_cases q : i < j
    · rw [if_pos q, if_pos (by omega)]
    · rw [if_neg q, if_neg (by omega)]
theorem splice_guard (zs : List Int) (gs gs' : List Bool) (st : Int) (hz : zs.length = 256) (hg : gs.length = gs'.length) : splice (chipC zs gs st) 256 (cellsB gs') = chipC zs gs' st := by
  unfold splice chipC
  rw [List.take_append_of_le_length (by simp [hz]), List.take_of_length_le (by simp [hz]), List.drop_append, List.drop_of_length_le (by simp [hz]), cellsB_len, List.nil_append, List.length_map, hz, show 256 + gs'.length - 256 = gs'.length by omega, List.drop_append, List.drop_of_length_le (by simp [hg]), List.nil_append, List.length_map, hg, Nat.sub_self]
  rfl
set_option maxRecDepth 100000 in
theorem szBool : (Try.prog.info? 4).map (·.size) = some 1 := by kernel_rfl
theorem zC_len : zC.length = 273 := chipC_273 zZ_len zG_len 0
theorem zC_set (st : Int) : zC.set 272 (.int .i64 st) = chipC zZ zG st := chipC_setState zZ_len zG_len st
set_option maxRecDepth 100000 in
theorem buildChip (st : Int) (w : World) : (Instr.build 97 #[(2, .int .i64 st)]).run Try.prog w = .ok (.agg (chipC zZ zG st).toArray) w := by
  obtain ⟨i, hi, hz⟩ := infoCx
  have hzv : (zeroValue 97).run Try.prog w = .ok (.agg zC.toArray) w := by simp [zeroValue, typeInfo, hi, hz]
  have hf : Instr.fill (fun x => ([(0, 256), (256, 16), (272, 1)] : List (Nat × Nat))[x]?) zC.toArray [(2, Value.int .i64 st)] = some (chipC zZ zG st).toArray := by
    simp [Instr.fill, Value.cells, zC_len, zC_set]
  simp [Instr.build, hzv, Value.cells, hf]
theorem wpList_build_chip {P : Program} {ops : Array Oper} {rest : List Oper} {op : Oper} {a : Act} {w : World} {Q : Exit → Act → World → Prop} {t : TypeId} (hgd : op.guard = none) (x : Operand) (v : Value) (cs : List Value) (ho : op.op = .build t #[(2, x)]) (hx : a.eval x = v)
    (hr : (Instr.build t #[(2, v)]).run P w = .ok (.agg cs.toArray) w)
    (h : wpList P ops Q rest (a.put op.dst (.agg cs.toArray)) w) : wpList P ops Q (op :: rest) a w :=
  wpList_plain hgd fun _ hK => by
    unfold Oper.wp execOp
    simp only [ho, Sem.run_bind, Sem.run_pure, Result.andThen_ok, List.map_toArray, List.map_cons, List.map_nil, hx, hr]
    exact hK _ _ h

set_option maxRecDepth 100000 in
set_option maxHeartbeats 4000000 in
theorem chipOf (A C : Option Addr) (n c m d : Nat) (st : Int) (zs : List Int) (gs : List Bool) (w : World) (hl : zs.length = n) (hm : gs.length = m) (hn : n = 256) (hmm : m = 16) (hz : ∀ z ∈ zs, 0 ≤ z ∧ z ≤ 255) (h : IntL w A zs) (g : BoolL w C gs) :
    Calls Try.prog 79 #[.agg #[.slice A n c, .slice C m d, .int .i64 st]] w (GivesChip zs gs st w) := by
  obtain ⟨W2, hW2⟩ : ∃ W2, W2 = (((w.alloc (.cells #[.slice A n c, .slice C m d, .int .i64 st] 43)).alloc (.cells zC.toArray 97)).alloc (.cells zC.toArray 97)) := ⟨_, rfl⟩
  have hb2 : Below w.heap.size w W2 := by rw [hW2]; exact bt (bt (alloc_below _ _) (alloc_below _ _)) (alloc_below _ _)
  have X2 : Box W2 w.heap.size 43 #[.slice A n c, .slice C m d, .int .i64 st] := by rw [hW2]; exact ((Box.new _ _ _).alloc _).alloc _
  have Y2 : BC W2 (w.heap.size + 1) zZ zG 0 := by rw [hW2]; have := (BC.newZ (w.alloc (.cells #[.slice A n c, .slice C m d, .int .i64 st] 43))).alloc (.cells zC.toArray 97); rw [World.size_alloc] at this; exact this
  have Z2 : BC W2 (w.heap.size + 1 + 1) zZ zG 0 := by rw [hW2]; have := BC.newZ ((w.alloc (.cells #[.slice A n c, .slice C m d, .int .i64 st] 43)).alloc (.cells zC.toArray 97)); rw [World.size_alloc, World.size_alloc] at this; exact this
  have HT : Hid (W2.there (w.heap.size + 1 + 1) 0 (chipC zZ zG st).toArray.size) := Lib.hid ((show (chipC zZ zG st).toArray.size = 273 from List.size_toArray.trans (chipC_273 zZ_len zG_len st)) ▸ Z2.there273 zZ_len zG_len)
  have HS : Hid ((Try.prog.info? 97).map (·.size) = some (chipC zZ zG st).toArray.size) := Lib.hid (by rw [List.size_toArray]; exact sizeC zZ zG st zZ_len zG_len)
  have HO := Lib.hid (all_oneCell_toArray (chipC_one zZ zG st))
  have Z3 := Lib.hid (Z2.put (zs' := zZ) (gs' := zG) (st' := st) rfl rfl)
  have X3 := Lib.hid (setCells_far X2 (show w.heap.size ≠ w.heap.size + 1 + 1 by omega) 0 (chipC zZ zG st))
  have Y3 := Lib.hid (Y2.far' (show w.heap.size + 1 ≠ w.heap.size + 1 + 1 by omega) 0 (chipC zZ zG st))
  have hb3 := below_setCellsC hb2 (show w.heap.size ≤ w.heap.size + 1 + 1 by omega) 0 (chipC zZ zG st)
  have x0 := X2.cell 0 rfl
  have x2 := X2.cell 2 rfl
  have x0' := X3.out.cell 0 rfl
  have HL := Lib.hid (And.intro (hl.trans hn) (hm.trans hmm))
  have HZ := Lib.hid hz
  have H := Lib.hid (And.intro h g)
  have HSb := Lib.hid (fun W (hb : Below w.heap.size w W) => (g.below hb).src (by omega))
  have HW2 := Lib.hid hW2
  have HBd := Lib.hid (fun W => buildChip st W)
  have HIn := Lib.hid infoCx
  generalize hzc : zC.toArray = zc at HW2 HIn
  generalize hcz : chipC zZ zG st = cz at HT HS HO Z3 X3 Y3 hb3 x0' HBd
  have HCz := Lib.hid hcz
  rw [HW2.out] at HT x0 x2 x0'
  subst hn hmm
  clear hl hm hz h g X2 Y2 Z2 hW2 hzc hcz
  go_enter Try.func79, Try.ntmps79
  go_wp2_with (first
    | (with_reducible refine wpList_alloc_at rfl 97 rfl zc HIn.out (w.heap.size + 1 + 1) ((World.size_alloc _ _).trans (congrArg (· + 1) (World.size_alloc _ _))) ?_)
    | (with_reducible refine wpList_alloc_at rfl 97 rfl zc HIn.out (w.heap.size + 1) (World.size_alloc _ _) ?_)
    | (with_reducible refine wpList_build_chip rfl (.tmp 7) (.int .i64 st) cz rfl rfl (HBd.out _) ?_)
    | (with_reducible refine wpList_store_mid rfl 97 (.tmp 3) (.tmp 8) rfl (w.heap.size + 1 + 1) 0 cz.toArray rfl rfl HT.out HS.out HO.out ?_))
  rw [← HW2.out]
  have x0s : Hid True := Lib.hid trivial
  clear x0 x2 x0' HT HS HO HBd HIn x0s
  generalize W2.setCells (w.heap.size + 1 + 1) 0 cz = W3 at Z3 X3 Y3 hb3 ⊢
  clear hb2 HW2 HCz
  go_loopw [12] (fun i wr => ∃ j : Nat, j ≤ 256 ∧ i = .int .i64 j ∧ Below w.heap.size w wr ∧ Hid (Box wr w.heap.size 43 #[.slice A 256 c, .slice C 16 d, .int .i64 st]) ∧ Hid (BC wr (w.heap.size + 1) zZ zG 0) ∧ Hid (BC wr (w.heap.size + 1 + 1) (takeZ zs j) zG st)) (fun i _ => 256 - (intOf i).toNat)
  case atStart => exact ⟨0, by omega, rfl, hb3, X3, Y3, Lib.hid (by rw [takeZ_zero]; exact Z3.out)⟩
  case round =>
    clear hb3 X3 Y3 Z3
    obtain ⟨j, hj, rfl, hbw, X, Y, Z⟩ := hrel
    by_cases hlt : j < 256
    · obtain ⟨ab, aoff, rfl, hc⟩ := (H.out.1.below hbw) j (by rw [HL.out.1]; exact hlt)
      have hx := HZ.out (zs.getD j 0) (by rw [List.getD_eq_getElem?_getD, List.getElem?_eq_getElem (by rw [HL.out.1]; exact hlt)]; exact List.getElem_mem _)
      have hZ := Z.out.setC j (zs.getD j 0) (by rw [takeZ_len]; exact hlt)
      rw [takeZ_next zs j hlt] at hZ
      have hd := Z.out.cell j (by rw [takeZ_len]; exact hlt)
      generalize (takeZ zs j).getD j 0 = y at hd
      generalize zs.getD j 0 = x at hc hx hZ
      have hf := Z.out.frozen j
      have HZn := Lib.hid hZ
      have HXn := Lib.hid (X.out.far (p := ⟨w.heap.size + 1 + 1, j, none⟩) (by show w.heap.size ≠ w.heap.size + 1 + 1; omega) (.int .u8 x))
      have HYn := Lib.hid (Y.out.far (p := ⟨w.heap.size + 1 + 1, j, none⟩) (by show w.heap.size + 1 ≠ w.heap.size + 1 + 1; omega) (.int .u8 x))
      have hb' : Below w.heap.size w (wr.setCell ⟨w.heap.size + 1 + 1, j, none⟩ (.int .u8 x)) := hbw.setCell (p := ⟨w.heap.size + 1 + 1, j, none⟩) (by show w.heap.size ≤ w.heap.size + 1 + 1; omega) _
      have hi : (j : Int) < 256 := by omega
      have hwr := wrap8 x hx.1 (by omega)
      have hmd : x % 256 = x := by omega
      clear hZ X Y Z hbw
      go_wp2
      go_roundw
      case rel => exact ⟨j + 1, by omega, by go_num, hb', HXn, HYn, HZn⟩
      case measure => simp [intOf]; omega
    · obtain rfl : j = 256 := by omega
      have hZ := Z.out
      rw [takeZ_all zs HL.out.1] at hZ
      have HZ3 := Lib.hid hZ
      have x1 := X.out.cell 1 rfl
      have h6 : Below (w.heap.size + 1 + 1) wr wr.drew := (Below.refl _ _).drew
      have HS1 := Lib.hid (HSb.out _ hbw.drew)
      have HCb : Hid ((cellsB gs).length = Nat.min 16 16) := Lib.hid (by rw [cellsB_len, HL.out.2]; rfl)
      have HFit : Hid (256 + (cellsB gs).length ≤ (chipC zs zG st).length) := Lib.hid (by rw [cellsB_len, HL.out.2, chipC_273 HL.out.1 zG_len]; omega)
      have HOne : Hid (∀ v ∈ cellsB gs, v.oneCell' = true) := Lib.hid (fun v hv => by unfold cellsB at hv; obtain ⟨q, _, rfl⟩ := List.mem_map.1 hv; rfl)
      have HSp := Lib.hid (splice_guard zs zG gs st HL.out.1 (zG_len.trans HL.out.2.symm))
      have HG : Hid (wr.drew.heap[w.heap.size + 1 + 1]? = some (.cells (chipC zs zG st).toArray 97 (0, 0))) := Lib.hid hZ
      generalize cellsB gs = cb at HS1 HCb HFit HOne HSp
      generalize chipC zs zG st = ca at HFit HSp HG
      clear hZ Z
      have HK : Hid (∀ W', Below (w.heap.size + 1 + 1) wr W' → W'.cell? ⟨w.heap.size, 1, none⟩ = some (.slice C 16 d)) := Lib.hid (fun W' hb => (X.out.below hb (by omega)).cell 1 rfl)
      have HY : Hid (∀ W', Below (w.heap.size + 1 + 1) wr W' → BC W' (w.heap.size + 1) zZ zG 0) := Lib.hid (fun W' hb => Box.below Y.out hb (by omega))
      have HBw := Lib.hid hbw
      clear X Y x1 hbw
      go_wp2
      go_region_held3 (fun W => W.cell? ⟨w.heap.size, 1, none⟩ = some (.slice C 16 d))
        (first | exact HK.out _ h6 | exact HK.out _ hb2)
        (first | (refine step_copy_splice rfl (.tmp 24) (.tmp 26) 37 37 rfl 4 Try.underlying37 szBool _ _ 16 16 16 d rfl rfl (w.heap.size + 1 + 1) 256 ca 97 HG.out cb HCb.out (fun _ => ⟨rfl, HS1.out⟩) HFit.out HOne.out (w.heap.size + 1 + 1) wr h6 (Nat.le_refl _) ?_; intro w2 hg2 hb2))
      have hZ : BC w2 (w.heap.size + 1 + 1) zs gs st := by have := hg2.out; rw [HSp.out] at this; exact this
      have HH := Lib.hid (hZ.hands (HY.out _ hb2) HL.out.1 HL.out.2 zZ_len zG_len)
      have hbz : Below w.heap.size w w2 := HBw.out.trans (hb2.mono (by omega))
      generalize hcs : chipC zs gs st = cs at HH
      have HCs := Lib.hid hcs
      clear hcs hZ HY HK HSp HG HS1 HCb HFit HOne hg2 hb2 h6
      go_wp2_with (first
        | (with_reducible refine wpList_load_mid rfl 97 (.tmp 3) rfl (w.heap.size + 1 + 1) 0 rfl cs _ HH.out.range Try.underlying97 rfl HH.out.size ?_)
        | (with_reducible refine wpList_store_mid rfl 97 (.tmp 2) (.tmp 28) rfl (w.heap.size + 1) 0 cs.toArray rfl rfl HH.out.room HH.out.size' HH.out.one ?_))
      refine bodyPost_ret (v := .agg cs.toArray) (results_cellC Try.results79 (by rfl) HH.out.back) rfl ?_
      exact ⟨by rw [HCs.out], below_setCellsC hbz (by omega) 0 cs⟩
end Go.Proofs.Ytieljgoodmoacaa
