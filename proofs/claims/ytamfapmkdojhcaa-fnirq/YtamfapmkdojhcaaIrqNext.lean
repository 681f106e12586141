/- NextIrq on both sides. -/
import Derived.Test.YtamfapmkdojhcaaIrqImpl
import Derived.Test.YtamfapmkdojhcaaIrqMath
import Derived.BigQuiet
namespace Go.Proofs.Ytamfapmkdojhcaa
open Go.RowKit

set_option maxRecDepth 100000 in
theorem szB1 : (Try.prog.info? 4).map (·.size) = some 1 := by kernel_rfl
set_option maxRecDepth 100000 in
theorem indexP (ps : List Bool) (hl : ps.length = 8) (j : Nat) (hj : j < 8) (w : World) : (Instr.index 50 (.agg (cellsB ps).toArray) (.int .i64 (j : Int))).run Try.prog w = .ok (.bool (ps.getD j false)) w := by
  obtain ⟨i, hi, hs⟩ := Option.map_eq_some_iff.1 szB1
  have hc : (cellsB ps)[j]? = some (.bool (ps.getD j false)) := by
    unfold cellsB
    rw [List.getElem?_map, List.getD_eq_getElem?_getD, List.getElem?_eq_getElem (by omega)]
    rfl
  simp [Instr.index, asIntOf, hj, sizeOf, typeInfo, hi, hs, part, isAgg, hc]
theorem row8_at {w : World} {b : Nat} {t : TypeId} {zs : List Int} (h : Box w b t (cellsI zs).toArray) (k : Nat) (hk : k < zs.length) : w.cell? ⟨b, k, none⟩ = some (.int .i64 (zs.getD k 0)) := Box.cell h k (by
  unfold cellsI
  rw [List.getElem?_toArray, List.getElem?_map, List.getD_eq_getElem?_getD, List.getElem?_eq_getElem hk]
  rfl)
theorem row8_set {w : World} {b : Nat} {t : TypeId} {zs : List Int} (h : Box w b t (cellsI zs).toArray) (k : Nat) (x : Int) : Box (w.setCell ⟨b, k, none⟩ (.int .i64 x)) b t (cellsI (zs.set k x)).toArray := by
  have := Box.set h k (.int .i64 x)
  rwa [List.setIfInBounds_toArray, show (cellsI zs).set k (.int .i64 x) = cellsI (zs.set k x) from by unfold cellsI; rw [List.map_set]] at this
set_option maxRecDepth 100000 in
theorem zero8 : (Try.prog.info? 49).map (fun i => (i.zero, i.size)) = some (some (.agg (cellsI zL).toArray), 8) := by kernel_rfl
set_option maxRecDepth 100000 in
theorem zero8x : ∃ i : TypeInfo, Try.prog.info? 49 = some i ∧ i.zero = some (.agg (cellsI zL).toArray) := by
  obtain ⟨i, hi, hzz⟩ := Option.map_eq_some_iff.1 zero8
  simp only [Prod.mk.injEq] at hzz
  exact ⟨i, hi, hzz.1⟩

set_option maxRecDepth 100000 in
set_option maxHeartbeats 4000000 in
theorem requests (d0 : List Int) (d1 : List Bool) (w : World) (l0 : d0.length = 8) (l1 : d1.length = 8) :
    Calls Try.prog 56 #[.agg (ctlC d0 d1).toArray] w fun e w' => e = .returned (.agg (cellsI (reqT d0 d1 8)).toArray) ∧ Below w.heap.size w w' := by
  obtain ⟨W0, hW0⟩ : ∃ W0, W0 = (((w.alloc (.cells (ctlC d0 d1).toArray 52)).alloc (.cells (cellsI zL).toArray 49)).alloc (.cells (cellsI zL).toArray 49)) := ⟨_, rfl⟩
  have hb0 : Below w.heap.size w W0 := by rw [hW0]; exact bt (bt (alloc_below _ _) (alloc_below _ _)) (alloc_below _ _)
  have X0 : Hid (Box W0 w.heap.size 52 (ctlC d0 d1).toArray) := Lib.hid (by rw [hW0]; exact ((Box.new _ _ _).alloc _).alloc _)
  have Y0 : Hid (Box W0 (w.heap.size + 1) 49 (cellsI zL).toArray) := Lib.hid (by rw [hW0]; have := (Box.new (w.alloc (.cells (ctlC d0 d1).toArray 52)) 49 (cellsI zL).toArray).alloc (.cells (cellsI zL).toArray 49); rw [World.size_alloc] at this; exact this)
  have Z0 : Hid (Box W0 (w.heap.size + 1 + 1) 49 (cellsI (reqT d0 d1 0)).toArray) := Lib.hid (by rw [hW0, reqT_zero]; have := Box.new ((w.alloc (.cells (ctlC d0 d1).toArray 52)).alloc (.cells (cellsI zL).toArray 49)) 49 (cellsI zL).toArray; rw [World.size_alloc, World.size_alloc] at this; exact this)
  have HRp : Hid (W0.rangeAt w.heap.size 8 (cellsB d1)) := Lib.hid (by
    obtain ⟨b, o, e, h⟩ := (box_pends X0.out l0).range (by omega)
    injection e with e; injection e with q1 q2; subst q1 q2
    exact h)
  have HZp : Hid ((Try.prog.info? 50).map (·.size) = some (cellsB d1).length) := Lib.hid (by rw [cellsB_len, l1]; exact size8B)
  have HIx := Lib.hid (fun j hj W => indexP d1 l1 j hj W)
  have HL := Lib.hid (And.intro l0 l1)
  have HIn := Lib.hid zero8x
  have HW0 := Lib.hid hW0
  obtain ⟨cs, hcs⟩ : ∃ cs, cs = ctlC d0 d1 := ⟨_, rfl⟩
  rw [← hcs] at HW0 X0 ⊢
  have HCs := Lib.hid hcs
  generalize hzc : (cellsI zL).toArray = zc at HW0 HIn Y0
  generalize cellsB d1 = cb at HRp HZp HIx
  clear hW0 l0 l1 hcs
  go_enter Try.func56, Try.ntmps56
  go_wp2_with (first
    | (with_reducible refine wpList_alloc_at rfl 49 rfl zc HIn.out (w.heap.size + 1 + 1) ((World.size_alloc _ _).trans (congrArg (· + 1) (World.size_alloc _ _))) ?_)
    | (with_reducible refine wpList_alloc_at rfl 49 rfl zc HIn.out (w.heap.size + 1) (World.size_alloc _ _) ?_)
    | (rw [← HW0.out]; with_reducible refine wpList_load_mid rfl 50 (.tmp 6) rfl w.heap.size 8 rfl cb _ HRp.out Try.underlying50 rfl HZp.out ?_))
  clear HRp HZp HW0 HIn
  go_loopw [8] (fun i wr => ∃ j : Nat, j ≤ 8 ∧ i = .int .i64 j ∧ Below w.heap.size w wr ∧ Hid (Box wr w.heap.size 52 cs.toArray) ∧ Hid (Box wr (w.heap.size + 1) 49 zc) ∧ Hid (Box wr (w.heap.size + 1 + 1) 49 (cellsI (reqT d0 d1 j)).toArray)) (fun i _ => 8 - (intOf i).toNat)
  case atStart => exact ⟨0, by omega, rfl, hb0, X0, Y0, Z0⟩
  case round =>
    clear hb0 X0 Y0 Z0
    obtain ⟨j, hj, rfl, hbw, X, Y, Z⟩ := hrel
    by_cases hlt : j < 8
    · have hi : (j : Int) < 8 := by omega
      have hix := HIx.out j hlt wr
      have HNx := Lib.hid (reqT_next d0 d1 j hlt)
      have HSm := Lib.hid (reqT_same d0 d1 j)
      have hlv : wr.cell? ⟨w.heap.size, j, none⟩ = some (.int .i64 (d0.getD j 0)) := X.out.cell j (by rw [HCs.out]; simpa using ctlC_level j (by rw [HL.out.1]; exact hlt))
      have hold := row8_at Z.out j (by rw [reqT_len]; exact hlt)
      have hfz := Z.out.frozen j
      have HZ2 := Lib.hid (row8_set Z.out j (d0.getD j 0))
      have HX2 := Lib.hid (X.out.far (p := ⟨w.heap.size + 1 + 1, j, none⟩) (by show w.heap.size ≠ w.heap.size + 1 + 1; omega) (.int .i64 (d0.getD j 0)))
      have HY2 := Lib.hid (Y.out.far (p := ⟨w.heap.size + 1 + 1, j, none⟩) (by show w.heap.size + 1 ≠ w.heap.size + 1 + 1; omega) (.int .i64 (d0.getD j 0)))
      have hb2 : Below w.heap.size w (wr.setCell ⟨w.heap.size + 1 + 1, j, none⟩ (.int .i64 (d0.getD j 0))) := hbw.setCell (p := ⟨w.heap.size + 1 + 1, j, none⟩) (by show w.heap.size ≤ w.heap.size + 1 + 1; omega) _
      generalize (reqT d0 d1 j).getD j 0 = old at hold
      generalize d0.getD j 0 = x at hlv HZ2 HX2 HY2 hb2 HNx
      generalize d1.getD j false = q at hix HNx HSm
      have HZ := Lib.hid Z.out
      clear Z
      cases q
      · go_wp2
        go_roundw
        case rel => exact ⟨j + 1, by omega, by go_num, hbw, X, Y, Lib.hid (by rw [HSm.out rfl]; exact HZ.out)⟩
        case measure => simp [intOf]; omega
      · go_wp2
        go_roundw
        case rel => exact ⟨j + 1, by omega, by go_num, hb2, HX2, HY2, Lib.hid (by rw [← HNx.out rfl]; exact HZ2.out)⟩
        case measure => simp [intOf]; omega
    · obtain rfl : j = 8 := by omega
      have HRg := Lib.hid (box_range Z.out)
      have HZs : Hid ((Try.prog.info? 49).map (·.size) = some (cellsI (reqT d0 d1 8)).length) := Lib.hid (by rw [cellsI_len, reqT_len]; exact size8I)
      have HZs2 : Hid ((Try.prog.info? 49).map (·.size) = some (cellsI (reqT d0 d1 8)).toArray.size) := Lib.hid (by rw [List.size_toArray]; exact HZs.out)
      have hzs : zc.size = 8 := by rw [← hzc]; rfl
      have HTh : Hid (wr.there (w.heap.size + 1) 0 (cellsI (reqT d0 d1 8)).toArray.size) := Lib.hid (by
        have := box_there Y.out
        rwa [hzs, ← (show (cellsI (reqT d0 d1 8)).toArray.size = 8 from by rw [List.size_toArray, cellsI_len, reqT_len])] at this)
      have HOn := Lib.hid (all_oneCell_toArray (cellsI_one8 (reqT d0 d1 8)))
      have HLd := Lib.hid (run_loadVar_mid (P := Try.prog) (wr.setCells (w.heap.size + 1) 0 (cellsI (reqT d0 d1 8))) (w.heap.size + 1) 0 49 (cellsI (reqT d0 d1 8)) _ (box_range (box_put Y.out _ (by rw [hzs, cellsI_len, reqT_len]))) Try.underlying49 rfl HZs.out)
      generalize hcr : cellsI (reqT d0 d1 8) = cr at HRg HZs HZs2 HTh HOn HLd
      have HCr := Lib.hid hcr
      clear hzs Y Z X HCs HL HIx hcr
      go_wp2_with (first
        | (with_reducible refine wpList_load_mid rfl 49 (.tmp 3) rfl (w.heap.size + 1 + 1) 0 rfl cr _ HRg.out Try.underlying49 rfl HZs.out ?_)
        | (with_reducible refine wpList_store_mid rfl 49 (.tmp 2) (.tmp 20) rfl (w.heap.size + 1) 0 cr.toArray rfl rfl HTh.out HZs2.out HOn.out ?_))
      refine bodyPost_ret (v := .agg cr.toArray) (results_cellC Try.results56 (by rfl) HLd.out) rfl ?_
      exact ⟨by rw [HCr.out], below_setCellsC hbw (by omega) 0 cr⟩

set_option maxRecDepth 100000 in
set_option maxHeartbeats 1000000 in
theorem firstMaximum (A : Option Addr) (n c : Nat) (zs : List Int) (w : World) (hl : zs.length = n) (hp : 0 < n) (hn : n ≤ maxLen) (h : IntL w A zs) :
    Calls Try.prog 57 #[.slice A n c] w fun e w' => e = .returned (.int .i64 (amaxF zs n : Int)) ∧ w = w' := by
  unfold maxLen at hn
  have HL := Lib.hid hl
  have H := Lib.hid h
  clear hl h
  go_enter Try.func57, Try.ntmps57
  go_wp2
  go_loop [8, 3] (fun i b => ∃ k m : Nat, k ≤ n ∧ m < n ∧ i = .int .i64 k ∧ b = .int .i64 m ∧ Hid (m = amaxF zs k)) (fun i _ => n - (intOf i).toNat)
  case atStart => exact ⟨0, 0, Nat.zero_le _, hp, rfl, rfl, Lib.hid rfl⟩
  case round =>
    obtain ⟨k, m, hk, hm, rfl, rfl, HM⟩ := hrel
    by_cases hlt : k < n
    · obtain ⟨b, off, rfl, hc⟩ := H.out k (by rw [HL.out]; exact hlt)
      obtain ⟨b', off', e', hc'⟩ := H.out m (by rw [HL.out]; exact hm)
      injection e' with e'; injection e' with q1 q2; subst q1 q2
      have HS : Hid (amaxF zs (k + 1) = if zs.getD m 0 < zs.getD k 0 then k else m) := Lib.hid (by rw [HM.out]; rfl)
      generalize zs.getD k 0 = x at hc HS
      generalize zs.getD m 0 = y at hc' HS
      have hi : (k : Int) < (n : Int) := by omega
      have hi2 : (m : Int) < (n : Int) := by omega
      by_cases hE : y < x
      · go_wp2
        go_round
        case rel => exact ⟨k + 1, k, by omega, by omega, by go_num, rfl, Lib.hid (by rw [HS.out, if_pos hE])⟩
        case measure => simp [intOf]; omega
      · go_wp2
        go_round
        case rel => exact ⟨k + 1, m, by omega, by omega, by go_num, rfl, Lib.hid (by rw [HS.out, if_neg hE])⟩
        case measure => simp [intOf]; omega
    · obtain rfl : k = n := by omega
      go_wp2
      go_ret
      exact ⟨ret_int (by rw [HM.out]), rfl⟩

set_option maxRecDepth 100000 in
set_option maxHeartbeats 4000000 in
theorem controllerNext (d0 : List Int) (d1 : List Bool) (a : Int) (w : World) (l0 : d0.length = 8) (l1 : d1.length = 8) :
    Calls Try.prog 34 #[.agg (ctlC d0 d1).toArray, .int .i64 a] w fun e w' => e = .returned (.int .i64 (selF d0 d1 a)) ∧ Below w.heap.size w w' := by
  obtain ⟨W0, hW0⟩ : ∃ W0, W0 = (w.alloc (.cells (ctlC d0 d1).toArray 52)) := ⟨_, rfl⟩
  have hb0 : Below w.heap.size w W0 := by rw [hW0]; exact alloc_below _ _
  have X0 : Box W0 w.heap.size 52 (ctlC d0 d1).toArray := by rw [hW0]; exact Box.new _ _ _
  have HRg := Lib.hid (box_range X0)
  have HZs : Hid ((Try.prog.info? 52).map (·.size) = some (ctlC d0 d1).length) := Lib.hid (by rw [ctlC_len, l0, l1]; exact sizeCtl)
  have HQ := Lib.hid (requests d0 d1 W0 l0 l1)
  have HSl := Lib.hid (show selF d0 d1 a = if (reqT d0 d1 8).getD (amaxF (reqT d0 d1 8) 8) 0 ≤ a then -1 else (amaxF (reqT d0 d1 8) 8 : Int) from rfl)
  have HLn := Lib.hid (reqT_len d0 d1 8)
  generalize selF d0 d1 a = sv at HSl ⊢
  generalize reqT d0 d1 8 = zs at HQ HSl HLn
  have HW0 := Lib.hid hW0
  generalize ctlC d0 d1 = cs at HRg HZs HQ HW0
  clear hW0 X0 l0 l1
  go_enter Try.func34, Try.ntmps34
  go_wp2_with (first
    | (rw [← HW0.out]; with_reducible refine wpList_load_mid rfl 52 (.tmp 2) rfl w.heap.size 0 rfl cs _ HRg.out Try.underlying52 rfl HZs.out ?_))
  refine HQ.out.mono ?_
  rintro e w1 ⟨rfl, hb1⟩
  have hb := bt hb0 hb1
  have Z0 : Box ((w1.alloc (.cells (cellsI zL).toArray 49)).setCells w1.heap.size 0 (cellsI zs)) w1.heap.size 49 (cellsI zs).toArray := box_put (Box.new w1 49 (cellsI zL).toArray) _ (by rw [cellsI_len, HLn.out]; rfl)
  have HT : Hid ((w1.alloc (.cells (cellsI zL).toArray 49)).there w1.heap.size 0 (cellsI zs).toArray.size) := Lib.hid (by
    have := box_there (Box.new w1 49 (cellsI zL).toArray)
    rwa [show (cellsI zL).toArray.size = (cellsI zs).toArray.size from by rw [List.size_toArray, List.size_toArray, cellsI_len, cellsI_len, HLn.out]; rfl] at this)
  have HS : Hid ((Try.prog.info? 49).map (·.size) = some (cellsI zs).toArray.size) := Lib.hid (by rw [List.size_toArray, cellsI_len, HLn.out]; exact size8I)
  have HOn := Lib.hid (all_oneCell_toArray (cellsI_one8 zs))
  have HF := Lib.hid (firstMaximum (some ⟨w1.heap.size, 0, none⟩) 8 8 zs _ HLn.out (by omega) (by unfold maxLen; omega) (fun k hk => ⟨w1.heap.size, 0, rfl, by rw [Nat.zero_add]; exact row8_at Z0 k hk⟩))
  have hb2 : Below w.heap.size w ((w1.alloc (.cells (cellsI zL).toArray 49)).setCells w1.heap.size 0 (cellsI zs)) := below_setCellsN hb.size _ _ _ (bt hb (alloc_below _ _))
  have hm8 := amaxF_lt zs 8 (by omega)
  have hat := row8_at Z0 (amaxF zs 8) (by rw [HLn.out]; exact hm8)
  generalize amaxF zs 8 = m at HF hm8 hat HSl
  generalize zs.getD m 0 = x at hat HSl
  generalize cellsI zs = cz at HT HS HOn hb2 hat HF
  have HIn := Lib.hid zero8x
  generalize (cellsI zL).toArray = zc at HT HF hb2 hat HIn
  have hmi : (m : Int) < 8 := by omega
  clear Z0 HQ hb0 HRg HZs HW0
  by_cases hx : x ≤ a
  · have HE : Hid (sv = -1) := Lib.hid (by rw [HSl.out, if_pos hx])
    go_wp2_with (first
      | (with_reducible refine wpList_alloc_at rfl 49 rfl zc HIn.out w1.heap.size rfl ?_)
      | (with_reducible refine wpList_store_mid rfl 49 (.tmp 5) (.tmp 8) rfl w1.heap.size 0 cz.toArray rfl rfl HT.out HS.out HOn.out ?_)
      | (go_at_call 57; refine HF.out.mono ?_; rintro e w' ⟨rfl, rfl⟩))
    go_ret
    exact ⟨ret_int HE.out.symm, hb2⟩
  · have HE : Hid (sv = m) := Lib.hid (by rw [HSl.out, if_neg hx])
    go_wp2_with (first
      | (with_reducible refine wpList_alloc_at rfl 49 rfl zc HIn.out w1.heap.size rfl ?_)
      | (with_reducible refine wpList_store_mid rfl 49 (.tmp 5) (.tmp 8) rfl w1.heap.size 0 cz.toArray rfl rfl HT.out HS.out HOn.out ?_)
      | (go_at_call 57; refine HF.out.mono ?_; rintro e w' ⟨rfl, rfl⟩))
    go_ret
    exact ⟨ret_int HE.out.symm, hb2⟩

/-- What NextIrq answers. -/
def nxtF (ls : List Int) (ps : List Bool) (a : Int) : Int × Int := if okIrq ls ps = true then (if lvB a = true then (nextF ls ps a 8, 0) else (0, 19)) else (0, 1)

section
variable (A0 A1 : Option Addr) (n0 n1 c0 c1 : Nat) (d0 : List Int) (d1 : List Bool) (w : World)
set_option maxRecDepth 100000 in
set_option maxHeartbeats 2000000 in
theorem implNextIrq (a : Int) (l0 : d0.length = n0) (l1 : d1.length = n1) (m0 : n0 ≤ maxLen) (m1 : n1 ≤ maxLen) (h0 : IntL w A0 d0) (h1 : BoolL w A1 d1) :
    Calls Try.prog 12 #[.agg #[.slice A0 n0 c0, .slice A1 n1 c1], .int .i64 a] w fun e w' => e = .returned (.tuple #[.int .i64 (nxtF d0 d1 a).1, .int .i64 (nxtF d0 d1 a).2]) ∧ Below w.heap.size w w' := by
  have hb0 := alloc_below w (.cells #[.slice A0 n0 c0, .slice A1 n1 c1] 26)
  have X0 := Lib.hid (Box.new w 26 #[.slice A0 n0 c0, .slice A1 n1 c1])
  have HV := Lib.hid (irqValid A0 A1 n0 n1 c0 c1 d0 d1 _ l0 l1 m0 m1 (h0.below hb0))
  have H := Lib.hid (And.intro (And.intro l0 l1) (And.intro h0 h1))
  obtain ⟨r, hr⟩ : ∃ r, nxtF d0 d1 a = r := ⟨_, rfl⟩
  rw [hr]
  have HR := Lib.hid hr
  clear l0 l1 m0 m1 h0 h1 hr
  go_enter Try.func12, Try.ntmps12
  go_wp2_with fail
  refine HV.out.mono ?_
  rintro e w1 ⟨rfl, hb1⟩
  have hb := bt hb0 hb1
  by_cases hok : okIrq d0 d1 = true
  · by_cases ha : lvB a = true
    · obtain ⟨q0, q1, -⟩ := okIrq_len hok
      obtain rfl : n0 = 8 := by have := H.out.1.1; omega
      obtain rfl : n1 = 8 := by have := H.out.1.2; omega
      have HO := Lib.hid (controllerOf A0 A1 c0 c1 d0 d1 w1 q0 q1 (H.out.2.1.below hb) (H.out.2.2.below hb))
      have HN := Lib.hid (fun W => controllerNext d0 d1 a W q0 q1)
      have HRz : Hid (r = (selF d0 d1 a, 0)) := Lib.hid (by rw [← HR.out, sel_next (lvB_range ha).1]; unfold nxtF; rw [hok, ha]; rfl)
      generalize selF d0 d1 a = z at HN HRz
      rw [hok]
      have f0 := (X0.out.step hb1).cell 0 rfl
      have f1 := (X0.out.step hb1).cell 1 rfl
      clear q0 q1 hok H HR
      go_wp2_with (first | (go_at_call 32; refine (isLevel _ _).mono ?_; rintro e w' ⟨rfl, rfl⟩; rw [ha]))
      refine HO.out.mono ?_
      rintro e w2 ⟨rfl, hb2⟩
      clear f0 f1
      go_wp2_with fail
      refine (HN.out _).mono ?_
      rintro e w3 ⟨rfl, hb3⟩
      go_wp2
      refine bodyPost_ret (v := .tuple #[.int .i64 z, .int .i64 0]) (by simp [results, Try.results12, go_sem]) rfl ?_
      exact ⟨by rw [HRz.out], bt (bt hb hb2) hb3⟩
    · have ha' : lvB a = false := by simpa using ha
      have HRz : Hid (r = (0, 19)) := Lib.hid (by rw [← HR.out]; unfold nxtF; rw [hok, ha']; rfl)
      rw [hok]
      clear ha hok H HR
      go_wp2_with (first | (go_at_call 32; refine (isLevel _ _).mono ?_; rintro e w' ⟨rfl, rfl⟩; rw [ha']))
      refine bodyPost_ret (v := .tuple #[.int .i64 0, .int .i64 19]) (by simp [results, Try.results12, go_sem]) rfl ?_
      exact ⟨by rw [HRz.out], hb⟩
  · have hok' : okIrq d0 d1 = false := by simpa using hok
    have HRz : Hid (r = (0, 1)) := Lib.hid (by rw [← HR.out]; unfold nxtF; rw [hok']; rfl)
    rw [hok']
    clear hok H HR
    go_wp2
    refine bodyPost_ret (v := .tuple #[.int .i64 0, .int .i64 1]) (by simp [results, Try.results12, go_sem]) rfl ?_
    exact ⟨by rw [HRz.out], hb⟩

set_option maxRecDepth 100000 in
set_option maxHeartbeats 4000000 in
theorem l06Next (a : Int) (l0 : d0.length = 8) (l1 : d1.length = 8) (h0 : IntL w A0 d0) (h1 : BoolL w A1 d1) :
    Calls Try.prog 36 #[.agg #[.slice A0 8 c0, .slice A1 8 c1], .int .i64 a] w fun e w' => e = .returned (.int .i64 (nextF d0 d1 a 8)) ∧ Below w.heap.size w w' := by
  obtain ⟨W0, hW0⟩ : ∃ W0, W0 = (w.alloc (.cells #[.slice A0 8 c0, .slice A1 8 c1] 26)) := ⟨_, rfl⟩
  have hb0 : Below w.heap.size w W0 := by rw [hW0]; exact alloc_below _ _
  have X0 : Hid (Box W0 w.heap.size 26 #[.slice A0 8 c0, .slice A1 8 c1]) := Lib.hid (by rw [hW0]; exact Box.new _ _ _)
  have HL := Lib.hid (And.intro l0 l1)
  have H := Lib.hid (And.intro h0 h1)
  have HW0 := Lib.hid hW0
  clear l0 l1 h0 h1 hW0
  go_enter Try.func36, Try.ntmps36
  go_wp2
  rw [← HW0.out]
  clear HW0
  go_loopw [6, 5] (fun i b wr => ∃ k : Nat, k ≤ 8 ∧ i = .int .i64 k ∧ b = .int .i64 (nextF d0 d1 a k) ∧ Below w.heap.size w wr ∧ Hid (Box wr w.heap.size 26 #[.slice A0 8 c0, .slice A1 8 c1])) (fun i _ _ => 8 - (intOf i).toNat)
  case atStart => exact ⟨0, Nat.zero_le _, rfl, rfl, hb0, X0⟩
  case round =>
    clear hb0 X0
    obtain ⟨k, hk, rfl, rfl, hbw, X⟩ := hrel
    by_cases hlt : k < 8
    · obtain ⟨b, off, rfl, hc⟩ := (H.out.1.below hbw) k (by rw [HL.out.1]; exact hlt)
      obtain ⟨b', off', rfl, hp⟩ := (H.out.2.below hbw) k (by rw [HL.out.2]; exact hlt)
      have HS : Hid (nextF d0 d1 a (k + 1) = if d1.getD k false = true ∧ a < d0.getD k 0 ∧ (nextF d0 d1 a k < 0 ∨ d0.getD (nextF d0 d1 a k).toNat 0 < d0.getD k 0) then (k : Int) else nextF d0 d1 a k) := Lib.hid rfl
      have hcs : nextF d0 d1 a k = -1 ∨ ∃ m : Nat, nextF d0 d1 a k = m ∧ m < k := nextF_lt d0 d1 a k
      have hi : (k : Int) < 8 := by omega
      have x0 := X.out.cell 0 rfl
      have x1 := X.out.cell 1 rfl
      generalize nextF d0 d1 a k = best at HS hcs
      generalize d0.getD k 0 = x at hc HS
      generalize d1.getD k false = q at hp HS
      cases q
      · have HE : Hid (nextF d0 d1 a (k + 1) = best) := Lib.hid (by rw [HS.out]; simp)
        clear hcs HS
        go_wp2
        go_quiet (fail)
        go_wp2
        go_roundw
        case rel => exact ⟨k + 1, by omega, by go_num, by rw [HE.out], below_drewN hbw _, Lib.hid X.out⟩
        case measure => simp [intOf]; omega
      · by_cases hx : a < x
        · have hx' : decide (a < x) = true := by simpa using hx
          rcases hcs with hb | ⟨m, hb, hm⟩
          · subst hb
            have HE : Hid (nextF d0 d1 a (k + 1) = k) := Lib.hid (by rw [HS.out, if_pos ⟨rfl, hx, .inl (by omega)⟩])
            clear HS
            go_wp2
            go_quiet (fail)
            go_wp2
            go_roundw
            case rel => exact ⟨k + 1, by omega, by go_num, by rw [HE.out], below_drewN hbw _, Lib.hid X.out⟩
            case measure => simp [intOf]; omega
          · subst hb
            obtain ⟨b2, off2, e2, hc2⟩ := (H.out.1.below hbw) m (by rw [HL.out.1]; omega)
            injection e2 with e2; injection e2 with r1 r2; subst r1 r2
            rw [Int.toNat_natCast] at HS
            generalize d0.getD m 0 = y at hc2 HS
            have hmn : ¬ ((m : Int) < 0) := by omega
            have hm8 : (m : Int) < 8 := by omega
            by_cases hy : y < x
            · have hy' : decide (y < x) = true := by simpa using hy
              have HE : Hid (nextF d0 d1 a (k + 1) = k) := Lib.hid (by rw [HS.out, if_pos ⟨rfl, hx, .inr hy⟩])
              clear HS
              go_wp2
              go_quiet (fail)
              go_wp2
              go_roundw
              case rel => exact ⟨k + 1, by omega, by go_num, by rw [HE.out], below_drewN hbw _, Lib.hid X.out⟩
              case measure => simp [intOf]; omega
            · have hy' : decide (y < x) = false := by simpa using hy
              have HE : Hid (nextF d0 d1 a (k + 1) = m) := Lib.hid (by rw [HS.out, if_neg (fun z => by rcases z.2.2 with z | z <;> omega)])
              clear HS
              go_wp2
              go_quiet (fail)
              go_wp2
              go_roundw
              case rel => exact ⟨k + 1, by omega, by go_num, by rw [HE.out], below_drewN hbw _, Lib.hid X.out⟩
              case measure => simp [intOf]; omega
        · have hx' : decide (a < x) = false := by simpa using hx
          have HE : Hid (nextF d0 d1 a (k + 1) = best) := Lib.hid (by rw [HS.out, if_neg (fun z => hx z.2.1)])
          clear hcs HS
          go_wp2
          go_quiet (fail)
          go_wp2
          go_roundw
          case rel => exact ⟨k + 1, by omega, by go_num, by rw [HE.out], below_drewN hbw _, Lib.hid X.out⟩
          case measure => simp [intOf]; omega
    · obtain rfl : k = 8 := by omega
      go_wp2
      go_ret
      exact ⟨rfl, hbw⟩

set_option maxRecDepth 100000 in
set_option maxHeartbeats 2000000 in
theorem specNextIrq (a : Int) (l0 : d0.length = n0) (l1 : d1.length = n1) (m0 : n0 ≤ maxLen) (m1 : n1 ≤ maxLen) (h0 : IntL w A0 d0) (h1 : BoolL w A1 d1) :
    Calls Try.prog 13 #[.agg #[.slice A0 n0 c0, .slice A1 n1 c1], .int .i64 a] w fun e w' => e = .returned (.tuple #[.int .i64 (nxtF d0 d1 a).1, .int .i64 (nxtF d0 d1 a).2]) ∧ Below w.heap.size w w' := by
  have hb0 := alloc_below w (.cells #[.slice A0 n0 c0, .slice A1 n1 c1] 26)
  have X0 := Lib.hid (Box.new w 26 #[.slice A0 n0 c0, .slice A1 n1 c1])
  have HV := Lib.hid (specIrqOK A0 A1 n0 n1 c0 c1 d0 d1 _ l0 l1 m0 m1 (h0.below hb0))
  have H := Lib.hid (And.intro (And.intro l0 l1) (And.intro h0 h1))
  obtain ⟨r, hr⟩ : ∃ r, nxtF d0 d1 a = r := ⟨_, rfl⟩
  rw [hr]
  have HR := Lib.hid hr
  clear l0 l1 m0 m1 h0 h1 hr
  go_enter Try.func13, Try.ntmps13
  go_wp2_with fail
  refine HV.out.mono ?_
  rintro e w1 ⟨rfl, hb1⟩
  have hb := bt hb0 hb1
  by_cases hok : okIrq d0 d1 = true
  · by_cases ha : lvB a = true
    · obtain ⟨q0, q1, -⟩ := okIrq_len hok
      obtain rfl : n0 = 8 := by have := H.out.1.1; omega
      obtain rfl : n1 = 8 := by have := H.out.1.2; omega
      have HN := Lib.hid (l06Next A0 A1 c0 c1 d0 d1 w1 a q0 q1 (H.out.2.1.below hb) (H.out.2.2.below hb))
      have HRz : Hid (r = (nextF d0 d1 a 8, 0)) := Lib.hid (by rw [← HR.out]; unfold nxtF; rw [hok, ha]; rfl)
      generalize nextF d0 d1 a 8 = z at HN HRz
      rw [hok]
      have f0 := (X0.out.step hb1).cell 0 rfl
      have f1 := (X0.out.step hb1).cell 1 rfl
      clear q0 q1 hok H HR
      go_wp2_with (first | (go_at_call 35; refine (l01In7 _ _).mono ?_; rintro e w' ⟨rfl, rfl⟩; rw [ha]))
      refine HN.out.mono ?_
      rintro e w3 ⟨rfl, hb3⟩
      go_wp2
      refine bodyPost_ret (v := .tuple #[.int .i64 z, .int .i64 0]) (by simp [results, Try.results13, go_sem]) rfl ?_
      exact ⟨by rw [HRz.out], bt hb hb3⟩
    · have ha' : lvB a = false := by simpa using ha
      have HRz : Hid (r = (0, 19)) := Lib.hid (by rw [← HR.out]; unfold nxtF; rw [hok, ha']; rfl)
      rw [hok]
      clear ha hok H HR
      go_wp2_with (first | (go_at_call 35; refine (l01In7 _ _).mono ?_; rintro e w' ⟨rfl, rfl⟩; rw [ha']))
      refine bodyPost_ret (v := .tuple #[.int .i64 0, .int .i64 19]) (by simp [results, Try.results13, go_sem]) rfl ?_
      exact ⟨by rw [HRz.out], hb⟩
  · have hok' : okIrq d0 d1 = false := by simpa using hok
    have HRz : Hid (r = (0, 1)) := Lib.hid (by rw [← HR.out]; unfold nxtF; rw [hok']; rfl)
    rw [hok']
    clear hok H HR
    go_wp2
    refine bodyPost_ret (v := .tuple #[.int .i64 0, .int .i64 1]) (by simp [results, Try.results13, go_sem]) rfl ?_
    exact ⟨by rw [HRz.out], hb⟩
end
end Go.Proofs.Ytamfapmkdojhcaa
