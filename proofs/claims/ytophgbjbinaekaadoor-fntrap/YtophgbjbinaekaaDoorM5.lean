/- Texts of this claim, one behind the other: ChipCycle, ChipWipe, ChipRead, CpuNew, NewFlash, OpDec2. -/
import Derived.Test.YtophgbjbinaekaaDoorChipFlash
import Derived.Test.YtophgbjbinaekaaDoorOpDec
import Derived.Test.YtophgbjbinaekaaDoorM4
/- Contracts of commanded, chip.next, chip.wipe. -/
namespace Go.Proofs.YtophgbjbinaekaaDoor
open Go.RowKit

def cmdS (v : Int) : Int := if v = 160 then 3 else if v = 128 then 4 else if v = 144 then 7 else if v = 154 then 8 else 0
def nextS (st k v : Int) : Int :=
  if st = 0 ∨ st = 4 then (if k = 85 ∧ v = 170 then st + 1 else 0)
  else if st = 1 ∨ st = 5 then (if k = 42 ∧ v = 85 then st + 1 else 0)
  else if st = 2 then (if k = 85 then cmdS v else 0)
  else if st = 7 then (if v = 240 then 0 else 7)
  else 0
def eraseN (zs : List Int) (gs : List Bool) : Nat → List Int
  | 0 => zs
  | n + 1 => eraseL (eraseN zs gs n) gs n
theorem eraseN_len (zs : List Int) (gs : List Bool) : ∀ n, (eraseN zs gs n).length = zs.length
  | 0 => rfl
  | n + 1 => by rw [eraseN, eraseL_len, eraseN_len zs gs n]
def wipeZ (zs : List Int) (gs : List Bool) (k v : Nat) : List Int :=
  if v = 16 then (if k = 85 then eraseN zs gs 16 else zs) else if v = 48 then eraseL zs gs (k / 16) else zs
theorem wipeZ_len (zs : List Int) (gs : List Bool) (k v : Nat) : (wipeZ zs gs k v).length = zs.length := by
  unfold wipeZ
  split
  · split
    · exact eraseN_len _ _ _
    · rfl
  · split
    · exact eraseL_len _ _ _
    · rfl

set_option maxRecDepth 100000 in
theorem commanded (v : Int) (w : World) : Calls Tryd.prog 106 #[.int .u8 v] w fun e w' => e = .returned (.int .i64 (cmdS v)) ∧ w = w' := by
  go_enter Tryd.func106, Tryd.ntmps106
  go_wp2
  all_goals go_ret
  all_goals (refine ⟨ret_int ?_, rfl⟩)
  all_goals (unfold cmdS; simp_all)

set_option maxRecDepth 100000 in
set_option maxHeartbeats 4000000 in
theorem chipNext (k v : Nat) (zs : List Int) (gs : List Bool) (st : Int) (w : World) (hz : zs.length = 256) (hg : gs.length = 16) (hs : 0 ≤ st ∧ st ≤ 8) :
    Calls Tryd.prog 105 #[.agg (chipC zs gs st).toArray, .int .i64 k, .int .u8 v] w fun e w' => e = .returned (.int .i64 (nextS st k v)) ∧ Below w.heap.size w w' := by
  have hb0 := alloc_below w (.cells (chipC zs gs st).toArray 65)
  have x0 := (BC.new w zs gs st).state hz hg
  generalize chipC zs gs st = cs at hb0 x0
  clear hz hg
  have h9 : st = 0 ∨ st = 1 ∨ st = 2 ∨ st = 3 ∨ st = 4 ∨ st = 5 ∨ st = 6 ∨ st = 7 ∨ st = 8 := by omega
  clear hs
  have hcm := fun W => commanded (v : Int) W
  have HC := Lib.hid hcm
  clear hcm
  rcases h9 with rfl | rfl | rfl | rfl | rfl | rfl | rfl | rfl | rfl
  all_goals (
    go_enter Tryd.func105, Tryd.ntmps105
    go_wp2_with (first | (go_at_call 106; refine (HC.out _).mono ?_; rintro e w' ⟨rfl, rfl⟩)))
  all_goals go_ret
  all_goals (refine ⟨ret_int ?_, hb0⟩)
  all_goals (unfold nextS; simp_all)
end Go.Proofs.YtophgbjbinaekaaDoor

/- Contracts of chip.wipe and chip.cycle. -/
namespace Go.Proofs.YtophgbjbinaekaaDoor
open Go.RowKit

theorem BC.again {w w' : World} {b : Nat} {zs zs' : List Int} {gs gs' : List Bool} {st st' : Int} (h : BC w b zs gs st) (hb : Below w.heap.size w w') (h1 : zs'.length = zs.length) (h2 : gs'.length = gs.length) : BC (w'.setCells b 0 (chipC zs' gs' st')) b zs' gs' st' := (h.step hb).put h1 h2
structure Loads (W : World) (b : Nat) (cs : List Value) : Prop where
  range : W.rangeAt b 0 cs
  size : (Tryd.prog.info? 65).map (·.size) = some cs.length
theorem BC.loads {W : World} {b : Nat} {zs : List Int} {gs : List Bool} {st : Int} (h : BC W b zs gs st) (hz : zs.length = 256) (hg : gs.length = 16) : Loads W b (chipC zs gs st) := ⟨h.range, sizeC zs gs st hz hg⟩
structure Stores (W : World) (b : Nat) (cs : List Value) : Prop where
  room : W.there b 0 cs.toArray.size
  size : (Tryd.prog.info? 65).map (·.size) = some cs.toArray.size
  one : cs.toArray.all (·.oneCell') = true
theorem BC.stores {W : World} {b : Nat} {zs zs' : List Int} {gs gs' : List Bool} {st st' : Int} (h : BC W b zs gs st) (hz : zs.length = 256) (hg : gs.length = 16) (hz' : zs'.length = 256) (hg' : gs'.length = 16) : Stores W b (chipC zs' gs' st') :=
  ⟨by rw [show (chipC zs' gs' st').toArray.size = 273 from List.size_toArray.trans (chipC_273 hz' hg' st')]; exact h.there273 hz hg, (sizeC zs' gs' st' hz' hg').trans (congrArg some List.size_toArray.symm), all_oneCell_toArray (chipC_one zs' gs' st')⟩

set_option maxRecDepth 100000 in
set_option maxHeartbeats 4000000 in
theorem chipWipe (k v : Nat) (zs : List Int) (gs : List Bool) (st : Int) (w : World) (hz : zs.length = 256) (hg : gs.length = 16) (hk : k < 256) (hv : v < 256) :
    Calls Tryd.prog 102 #[.agg (chipC zs gs st).toArray, .int .i64 k, .int .u8 v] w (GivesChip (wipeZ zs gs k v) gs st w) := by
  obtain ⟨X0, Y0, hb0⟩ := two_chips w zs gs st
  have HB := Lib.hid (fun W => blockOf k (by omega) W)
  have HEr := Lib.hid (fun b (hb : b < 16) zs' (hz' : zs'.length = 256) W => chipErase b zs' gs st W hz' hg hb)
  have HL := Lib.hid (And.intro hz hg)
  have HIn := Lib.hid infoCx
  obtain ⟨zc, hzc⟩ : ∃ zc, zc = zC.toArray := ⟨_, rfl⟩
  rw [← hzc] at HIn X0 Y0 hb0
  obtain ⟨W1, hW1⟩ : ∃ W1, W1 = (w.alloc (.cells (chipC zs gs st).toArray 65)).alloc (.cells zc 65) := ⟨_, rfl⟩
  have hkd : k / 16 < 16 := by omega
  by_cases hv16 : v = 16
  · subst hv16
    by_cases hk85 : k = 85
    · subst hk85
      have HR : Hid (wipeZ zs gs 85 16 = eraseN zs gs 16) := Lib.hid (by unfold wipeZ; rw [if_pos rfl, if_pos rfl])
      rw [← hW1] at X0 Y0 hb0
      have HX := Lib.hid (And.intro X0 (And.intro Y0 hb0))
      generalize hcs : chipC zs gs st = cs at hW1
      have HW1 := Lib.hid hW1
      clear hz hg X0 Y0 hb0 hzc hcs hW1
      go_enter Tryd.func102, Tryd.ntmps102
      go_wp2_with (first
        | (with_reducible refine wpList_alloc_big rfl 65 rfl zc HIn.out ?_)
        | (go_at_call 104; refine (HB.out _).mono ?_; rintro e w' ⟨rfl, rfl⟩))
      rw [← HW1.out]
      go_loopw [9] (fun i wr => ∃ j : Nat, j ≤ 16 ∧ i = .int .i64 j ∧ Below w.heap.size w wr ∧ Hid (BC wr w.heap.size (eraseN zs gs j) gs st) ∧ Hid (BC wr (w.heap.size + 1) zZ zG 0)) (fun i _ => 16 - (intOf i).toNat)
      case atStart => exact ⟨0, by omega, rfl, HX.out.2.2, Lib.hid HX.out.1, Lib.hid HX.out.2.1⟩
      case round =>
        clear HX HW1
        obtain ⟨j, hj, rfl, hbw, X, Y⟩ := hrel
        by_cases hlt : j < 16
        · have HLd := Lib.hid (X.out.loads (by rw [eraseN_len]; exact HL.out.1) HL.out.2)
          have HE := Lib.hid (HEr.out j hlt (eraseN zs gs j) (by rw [eraseN_len]; exact HL.out.1) wr)
          have HE2 : Hid (Calls Tryd.prog 25 #[.agg (chipC (eraseN zs gs j) gs st).toArray, .int .i64 j] wr fun e w' => e = .returned (.agg (chipC (eraseN zs gs (j + 1)) gs st).toArray) ∧ Below wr.heap.size wr w') := HE
          have HSt := Lib.hid (fun w' (hb : Below wr.heap.size wr w') => (X.out.step hb).stores (zs' := eraseN zs gs (j + 1)) (gs' := gs) (st' := st) (by rw [eraseN_len]; exact HL.out.1) HL.out.2 (by rw [eraseN_len]; exact HL.out.1) HL.out.2)
          have HXn := Lib.hid (fun w' (hb : Below wr.heap.size wr w') => X.out.again (zs' := eraseN zs gs (j + 1)) (gs' := gs) (st' := st) hb (by rw [eraseN_len, eraseN_len]) rfl)
          have HYn := Lib.hid (fun w' (hb : Below wr.heap.size wr w') cs => (Y.out.step hb).far' (show w.heap.size + 1 ≠ w.heap.size by omega) 0 cs)
          generalize hca : chipC (eraseN zs gs j) gs st = ca at HLd HE2
          generalize hcb : chipC (eraseN zs gs (j + 1)) gs st = cb at HE2 HSt HXn
          have hi : (j : Int) ≤ 15 := by omega
          clear HE X Y hca hcb HR
          go_wp2_with (first
            | (with_reducible refine wpList_load_mid rfl 65 (.tmp 3) rfl w.heap.size 0 rfl ca _ HLd.out.range Tryd.underlying65 rfl HLd.out.size ?_))
          refine HE2.out.mono ?_
          rintro e w2 ⟨rfl, hb2⟩
          have HS := Lib.hid (HSt.out w2 hb2)
          go_wp2_with (first
            | (with_reducible refine wpList_store_mid rfl 65 (.tmp 3) (.tmp 30) rfl w.heap.size 0 cb.toArray rfl rfl HS.out.room HS.out.size HS.out.one ?_))
          go_roundw
          case rel => exact ⟨j + 1, by omega, by go_num, below_setCellsC (bt hbw hb2) (Nat.le_refl _) 0 cb, Lib.hid (HXn.out w2 hb2), Lib.hid (HYn.out w2 hb2 cb)⟩
          case measure => simp [intOf] <;> omega
        · obtain rfl : j = 16 := by omega
          have HH := Lib.hid (X.out.hands Y.out (by rw [eraseN_len]; exact HL.out.1) HL.out.2 zZ_len zG_len)
          rw [← HR.out] at HH
          generalize hcs : chipC (wipeZ zs gs 85 16) gs st = cs at HH
          have HCs := Lib.hid hcs
          clear hcs X Y
          go_wp2_with (first
            | (with_reducible refine wpList_load_mid rfl 65 (.tmp 3) rfl w.heap.size 0 rfl cs _ HH.out.range Tryd.underlying65 rfl HH.out.size ?_)
            | (with_reducible refine wpList_store_mid rfl 65 (.tmp 6) (.tmp 31) rfl (w.heap.size + 1) 0 cs.toArray rfl rfl HH.out.room HH.out.size' HH.out.one ?_))
          refine bodyPost_ret (v := .agg cs.toArray) (results_cellC Tryd.results102 (by rfl) HH.out.back) rfl ?_
          exact ⟨by rw [HCs.out], below_setCellsC hbw (by omega) 0 cs⟩
    · have hq : ((k : Int) != 85) = true := by simp; omega
      have HR : Hid (wipeZ zs gs k 16 = zs) := Lib.hid (by unfold wipeZ; rw [if_pos rfl, if_neg hk85])
      rw [← hW1] at X0 Y0 hb0
      have HH := Lib.hid (X0.hands Y0 hz hg zZ_len zG_len)
      have HBl := Lib.hid hb0
      generalize hcs : chipC zs gs st = cs at HH hW1
      have HCs : Hid (chipC (wipeZ zs gs k 16) gs st = cs) := Lib.hid (by rw [HR.out]; exact hcs)
      have HW1 := Lib.hid hW1
      clear hz hg X0 Y0 hb0 hzc hcs hW1 hk85 HR
      go_enter Tryd.func102, Tryd.ntmps102
      go_wp2_with (first
        | (with_reducible refine wpList_alloc_big rfl 65 rfl zc HIn.out ?_)
        | (go_at_call 104; refine (HB.out _).mono ?_; rintro e w' ⟨rfl, rfl⟩)
        | (rw [← HW1.out]; with_reducible refine wpList_load_mid rfl 65 (.tmp 3) rfl w.heap.size 0 rfl cs _ HH.out.range Tryd.underlying65 rfl HH.out.size ?_)
        | (with_reducible refine wpList_store_mid rfl 65 (.tmp 6) (.tmp 21) rfl (w.heap.size + 1) 0 cs.toArray rfl rfl HH.out.room HH.out.size' HH.out.one ?_))
      refine bodyPost_ret (v := .agg cs.toArray) (results_cellC Tryd.results102 (by rfl) HH.out.back) rfl ?_
      exact ⟨by rw [HCs.out], below_setCellsC HBl.out (by omega) 0 cs⟩
  · have hq16 : ((v : Int) == 16) = false := by simp; omega
    by_cases hv48 : v = 48
    · subst hv48
      have HR : Hid (wipeZ zs gs k 48 = eraseL zs gs (k / 16)) := Lib.hid (by unfold wipeZ; rw [if_neg (by omega), if_pos rfl])
      rw [← hW1] at X0 Y0 hb0
      have HX := Lib.hid (And.intro X0 (And.intro Y0 hb0))
      generalize hcs : chipC zs gs st = cs at hW1
      have HW1 := Lib.hid hW1
      clear hz hg X0 Y0 hb0 hzc hcs hW1
      obtain ⟨kb, hkb⟩ : ∃ kb, kb = k / 16 := ⟨_, rfl⟩
      rw [← hkb] at hkd HR HB
      have HKb := Lib.hid hkb
      clear hkb
      go_enter Tryd.func102, Tryd.ntmps102
      go_wp2_with (first
        | (with_reducible refine wpList_alloc_big rfl 65 rfl zc HIn.out ?_)
        | (go_at_call 104; refine (HB.out _).mono ?_; rintro e w' ⟨rfl, rfl⟩))
      rw [← HW1.out]
      go_loopw [9] (fun i wr => ∃ j : Nat, j ≤ 1 ∧ i = .int .i64 ((kb + j : Nat) : Int) ∧ Below w.heap.size w wr ∧ Hid (BC wr w.heap.size (if j = 0 then zs else eraseL zs gs kb) gs st) ∧ Hid (BC wr (w.heap.size + 1) zZ zG 0)) (fun i _ => kb + 1 - (intOf i).toNat)
      case atStart => exact ⟨0, by omega, rfl, HX.out.2.2, Lib.hid HX.out.1, Lib.hid HX.out.2.1⟩
      case round =>
        clear HX HW1
        obtain ⟨j, hj, rfl, hbw, X0, Y⟩ := hrel
        by_cases hlt : j = 0
        · subst hlt
          have X : Hid (BC wr w.heap.size zs gs st) := Lib.hid (by have := X0.out; rwa [if_pos rfl] at this)
          have HLd := Lib.hid (X.out.loads HL.out.1 HL.out.2)
          have HE := Lib.hid (HEr.out kb hkd zs HL.out.1 wr)
          have HE2 : Hid (Calls Tryd.prog 25 #[.agg (chipC zs gs st).toArray, .int .i64 kb] wr fun e w' => e = .returned (.agg (chipC (eraseL zs gs kb) gs st).toArray) ∧ Below wr.heap.size wr w') := HE
          have HSt := Lib.hid (fun w' (hb : Below wr.heap.size wr w') => (X.out.step hb).stores (zs' := eraseL zs gs kb) (gs' := gs) (st' := st) HL.out.1 HL.out.2 (by rw [eraseL_len]; exact HL.out.1) HL.out.2)
          have HXn := Lib.hid (fun w' (hb : Below wr.heap.size wr w') => X.out.again (zs' := eraseL zs gs kb) (gs' := gs) (st' := st) hb (by rw [eraseL_len]) rfl)
          have HYn := Lib.hid (fun w' (hb : Below wr.heap.size wr w') cs => (Y.out.step hb).far' (show w.heap.size + 1 ≠ w.heap.size by omega) 0 cs)
          generalize hca : chipC zs gs st = ca at HLd HE2
          generalize hcb : chipC (eraseL zs gs kb) gs st = cb at HE2 HSt HXn
          clear HE X X0 Y hca hcb HR
          go_wp2_with (first
            | (with_reducible refine wpList_load_mid rfl 65 (.tmp 3) rfl w.heap.size 0 rfl ca _ HLd.out.range Tryd.underlying65 rfl HLd.out.size ?_))
          refine HE2.out.mono ?_
          rintro e w2 ⟨rfl, hb2⟩
          have HS := Lib.hid (HSt.out w2 hb2)
          go_wp2_with (first
            | (with_reducible refine wpList_store_mid rfl 65 (.tmp 3) (.tmp 30) rfl w.heap.size 0 cb.toArray rfl rfl HS.out.room HS.out.size HS.out.one ?_))
          go_roundw
          case rel => exact ⟨1, by omega, by go_num, below_setCellsC (bt hbw hb2) (Nat.le_refl _) 0 cb, Lib.hid (by rw [if_neg (by omega)]; exact HXn.out w2 hb2), Lib.hid (HYn.out w2 hb2 cb)⟩
          case measure => simp [intOf] <;> omega
        · obtain rfl : j = 1 := by omega
          have X : Hid (BC wr w.heap.size (eraseL zs gs kb) gs st) := Lib.hid (by have := X0.out; rwa [if_neg (by omega)] at this)
          have HH := Lib.hid (X.out.hands Y.out (by rw [eraseL_len]; exact HL.out.1) HL.out.2 zZ_len zG_len)
          rw [← HR.out] at HH
          generalize hcs : chipC (wipeZ zs gs k 48) gs st = cs at HH
          have HCs := Lib.hid hcs
          clear hcs X X0 Y hlt
          go_wp2_with (first
            | (with_reducible refine wpList_load_mid rfl 65 (.tmp 3) rfl w.heap.size 0 rfl cs _ HH.out.range Tryd.underlying65 rfl HH.out.size ?_)
            | (with_reducible refine wpList_store_mid rfl 65 (.tmp 6) (.tmp 31) rfl (w.heap.size + 1) 0 cs.toArray rfl rfl HH.out.room HH.out.size' HH.out.one ?_))
          refine bodyPost_ret (v := .agg cs.toArray) (results_cellC Tryd.results102 (by rfl) HH.out.back) rfl ?_
          exact ⟨by rw [HCs.out], below_setCellsC hbw (by omega) 0 cs⟩
    · have hq48 : ((v : Int) == 48) = false := by simp; omega
      have HR : Hid (wipeZ zs gs k v = zs) := Lib.hid (by unfold wipeZ; rw [if_neg hv16, if_neg hv48])
      rw [← hW1] at X0 Y0 hb0
      have HH := Lib.hid (X0.hands Y0 hz hg zZ_len zG_len)
      have HBl := Lib.hid hb0
      generalize hcs : chipC zs gs st = cs at HH hW1
      have HCs : Hid (chipC (wipeZ zs gs k v) gs st = cs) := Lib.hid (by rw [HR.out]; exact hcs)
      have HW1 := Lib.hid hW1
      clear hz hg X0 Y0 hb0 hzc hcs hW1 HR hv16 hv48
      go_enter Tryd.func102, Tryd.ntmps102
      go_wp2_with (first
        | (with_reducible refine wpList_alloc_big rfl 65 rfl zc HIn.out ?_)
        | (go_at_call 104; refine (HB.out _).mono ?_; rintro e w' ⟨rfl, rfl⟩)
        | (rw [← HW1.out]; with_reducible refine wpList_load_mid rfl 65 (.tmp 3) rfl w.heap.size 0 rfl cs _ HH.out.range Tryd.underlying65 rfl HH.out.size ?_)
        | (with_reducible refine wpList_store_mid rfl 65 (.tmp 6) (.tmp 31) rfl (w.heap.size + 1) 0 cs.toArray rfl rfl HH.out.room HH.out.size' HH.out.one ?_))
      refine bodyPost_ret (v := .agg cs.toArray) (results_cellC Tryd.results102 (by rfl) HH.out.back) rfl ?_
      exact ⟨by rw [HCs.out], below_setCellsC HBl.out (by omega) 0 cs⟩
end Go.Proofs.YtophgbjbinaekaaDoor

/- The chip's identify and read; BusRead by way of the chip. -/
namespace Go.Proofs.YtophgbjbinaekaaDoor
open Go.RowKit

set_option maxRecDepth 100000 in
set_option maxHeartbeats 2000000 in
theorem chipIdentify (k : Nat) (zs : List Int) (gs : List Bool) (st : Int) (w : World) (hz : zs.length = 256) (hg : gs.length = 16) (hk : k ≤ 255) :
    Calls Tryd.prog 100 #[.agg (chipC zs gs st).toArray, .int .i64 k] w fun e w' => e = .returned (.int .i64 (readV zs gs 7 k)) ∧ Below w.heap.size w w' := by
  have hb0 := alloc_below w (.cells (chipC zs gs st).toArray 65)
  have hc := (BC.new w zs gs st).guard hz (k / 16) (by omega)
  have HR : Hid (∀ q, q = gs.getD (k / 16) false → readV zs gs 7 k = if k % 4 = 0 then 32 else if k % 4 = 1 then 47 else if k % 4 = 2 then (if q then 1 else 0) else 255) := Lib.hid (by intro q hq; subst hq; unfold readV; rw [if_pos rfl])
  generalize readV zs gs 7 k = r at HR
  have HR2 := Lib.hid (HR.out _ rfl)
  generalize gs.getD (k / 16) false = q at hc HR2
  generalize chipC zs gs st = cs at hb0 hc
  have HB := Lib.hid (fun W => blockOf k hk W)
  have h4 : k % 4 = 0 ∨ k % 4 = 1 ∨ k % 4 = 2 ∨ k % 4 = 3 := by omega
  have hdi : ((k / 16 : Nat) : Int) < 16 := by omega
  clear hz hg HR
  rcases h4 with h4 | h4 | h4 | h4
  · have q0 : ((k : Int) % 4 == 0) = true := by simp; omega
    have e : r = 32 := by rw [HR2.out, if_pos h4]
    clear h4 HR2
    subst e
    go_enter Tryd.func100, Tryd.ntmps100
    go_wp2
    go_ret
    exact ⟨rfl, hb0⟩
  · have q0 : ((k : Int) % 4 == 0) = false := by simp; omega
    have q1 : ((k : Int) % 4 == 1) = true := by simp; omega
    have e : r = 47 := by rw [HR2.out, if_neg (by omega), if_pos h4]
    clear h4 HR2
    subst e
    go_enter Tryd.func100, Tryd.ntmps100
    go_wp2
    go_ret
    exact ⟨rfl, hb0⟩
  · have q0 : ((k : Int) % 4 == 0) = false := by simp; omega
    have q1 : ((k : Int) % 4 == 1) = false := by simp; omega
    have q2 : ((k : Int) % 4 == 2) = true := by simp; omega
    have e : r = if q then 1 else 0 := by rw [HR2.out, if_neg (by omega), if_neg (by omega), if_pos h4]
    have HE := Lib.hid e
    clear h4 HR2 e
    cases q <;> (
      go_enter Tryd.func100, Tryd.ntmps100
      go_wp2_with (first | (go_at_call 104; refine (HB.out _).mono ?_; rintro e w' ⟨rfl, rfl⟩))
      go_ret
      exact ⟨ret_int HE.out.symm, hb0⟩)
  · have q0 : ((k : Int) % 4 == 0) = false := by simp; omega
    have q1 : ((k : Int) % 4 == 1) = false := by simp; omega
    have q2 : ((k : Int) % 4 == 2) = false := by simp; omega
    have e : r = 255 := by rw [HR2.out, if_neg (by omega), if_neg (by omega), if_neg (by omega)]
    clear h4 HR2
    subst e
    go_enter Tryd.func100, Tryd.ntmps100
    go_wp2
    go_ret
    exact ⟨rfl, hb0⟩

set_option maxRecDepth 100000 in
set_option maxHeartbeats 2000000 in
theorem chipRead (k : Nat) (zs : List Int) (gs : List Bool) (st : Int) (w : World) (hz : zs.length = 256) (hg : gs.length = 16) (hk : k ≤ 255) (hzs : ∀ z ∈ zs, 0 ≤ z ∧ z ≤ 255) :
    Calls Tryd.prog 98 #[.agg (chipC zs gs st).toArray, .int .i64 k] w fun e w' => e = .returned (.int .i64 (readV zs gs st k)) ∧ Below w.heap.size w w' := by
  have hb0 := alloc_below w (.cells (chipC zs gs st).toArray 65)
  have X := BC.new w zs gs st
  have x0 := X.state hz hg
  by_cases h7 : st = 7
  · subst h7
    have HI := Lib.hid (chipIdentify k zs gs 7 (w.alloc (.cells (chipC zs gs 7).toArray 65)) hz hg hk)
    have HLd := Lib.hid (X.loads hz hg)
    generalize readV zs gs 7 k = r at HI
    generalize chipC zs gs 7 = cs at hb0 x0 HI HLd
    clear X hz hg hzs
    go_enter Tryd.func98, Tryd.ntmps98
    go_wp2_with (first
      | (with_reducible refine wpList_load_mid rfl 65 (.tmp 2) rfl w.heap.size 0 rfl cs _ HLd.out.range Tryd.underlying65 rfl HLd.out.size ?_))
    refine HI.out.mono ?_
    rintro e w2 ⟨rfl, hb2⟩
    go_wp2
    go_ret
    exact ⟨rfl, bt hb0 hb2⟩
  · have q7 : (st == 7) = false := by simp [h7]
    have hc := X.cell k (by omega)
    have HE : Hid (readV zs gs st k = zs.getD k 0) := Lib.hid (by unfold readV; rw [if_neg h7])
    generalize readV zs gs st k = r at HE
    have hrg := hzs (zs.getD k 0) (by rw [List.getD_eq_getElem?_getD, List.getElem?_eq_getElem (by omega)]; exact List.getElem_mem _)
    generalize zs.getD k 0 = x at hc HE hrg
    have hw6 : RowKit.wrap64 x = x := by unfold RowKit.wrap64; omega
    generalize chipC zs gs st = cs at hb0 x0 hc
    have hki : (k : Int) < 256 := by omega
    clear X hz hg hzs h7
    go_enter Tryd.func98, Tryd.ntmps98
    go_wp2
    go_ret
    exact ⟨ret_int HE.out.symm, hb0⟩

end Go.Proofs.YtophgbjbinaekaaDoor

/- NewCpu of both sides. -/
namespace Go.Proofs.YtophgbjbinaekaaDoor
open Go.RowKit

theorem made_ownC {w : World} {b n L R : Nat} (h : Box w b 3 (madeCells #[.int .i64 0] n)) (hl : L ≤ b) (hr : b < R) : OwnI w L R (some ⟨b, 0, none⟩) (List.replicate n 0) :=
  .inr ⟨b, n, fun _ => .int .i64 0, rfl, hl, hr, by simp, made_row h, fun i hi => by
    rw [List.getD_eq_getElem?_getD, List.getElem?_replicate, if_pos (by simpa using hi)]; rfl⟩
def zRegs : List Int := List.replicate 16 0
def nc0 : Int := 512
def nc1 : Int := 255
def nc2 : Int := 0
def nc3 : Int := 0
def nf4 : Bool := false
def nf5 : Bool := false
def nf6 : Bool := false
def nf7 : Bool := false
set_option maxRecDepth 100000 in
set_option maxHeartbeats 2000000 in
theorem implNewCpuA (w : World) :
    Calls Tryd.prog 5 #[] w (fun e w' => ∃ rA8 rc8, e = .returned (.agg #[.int .i64 nc0, .int .i64 nc1, .int .i64 nc2, .int .i64 nc3, .bool nf4, .bool nf5, .bool nf6, .bool nf7, .slice rA8 zRegs.length rc8]) ∧ Hid (OwnA w' w.heap.size w'.heap.size [.slice rA8 zRegs.length rc8] [.I zRegs]) ∧ Below w.heap.size w w') := by
  have hmk : ∀ W : World, (Instr.makeSlice 23 (.int .i64 16) (.int .i64 16)).run Tryd.prog W = .ok (.slice (some ⟨W.heap.size, 0, none⟩) 16 16) (W.alloc (.cells (madeCells #[.int .i64 0] 16) 3)) := fun W => run_make_row' (P := Tryd.prog) 23 3 (.int .i64 0) 8 Tryd.underlying23 infoI rfl .i64 .i64 16 (by omega) (by omega) W
  obtain ⟨W0, hW0⟩ : ∃ W0, W0 = ((w.alloc (.cells #[.int .i64 512, .int .i64 255, .int .i64 0, .int .i64 0, .bool false, .bool false, .bool false, .bool false, .slice (some ⟨w.heap.size + 1, 0, none⟩) 16 16] 25)).alloc (.cells (madeCells #[.int .i64 0] 16) 3)) := ⟨_, rfl⟩
  have hb0 : Below w.heap.size w W0 := by rw [hW0]; exact bt (alloc_below _ _) (alloc_below _ _)
  have X0 : Box W0 w.heap.size 25 #[.int .i64 512, .int .i64 255, .int .i64 0, .int .i64 0, .bool false, .bool false, .bool false, .bool false, .slice (some ⟨w.heap.size + 1, 0, none⟩) 16 16] := by rw [hW0]; exact (Box.new _ _ _).alloc _
  have Y0 : Box W0 (w.heap.size + 1) 3 (madeCells #[.int .i64 0] 16) := by rw [hW0]; simpa using Box.new (w.alloc (.cells #[.int .i64 512, .int .i64 255, .int .i64 0, .int .i64 0, .bool false, .bool false, .bool false, .bool false, .slice (some ⟨w.heap.size + 1, 0, none⟩) 16 16] 25)) 3 (madeCells #[.int .i64 0] 16)
  have hs0 : W0.heap.size = w.heap.size + 2 := by rw [hW0]; simp
  have HO := Lib.hid (made_ownC Y0 (L := w.heap.size) (R := W0.heap.size) (by omega) (by omega))
  have HB := Lib.hid hb0
  have HX := Lib.hid X0
  have HW0 := Lib.hid hW0
  clear hW0 hs0 Y0 X0 hb0
  go_enter Tryd.func5, Tryd.ntmps5
  go_wp2
  rw [← HW0.out]
  have s0 := HX.out.cell 0 rfl
  have s1 := HX.out.cell 1 rfl
  have s2 := HX.out.cell 2 rfl
  have s3 := HX.out.cell 3 rfl
  have s4 := HX.out.cell 4 rfl
  have s5 := HX.out.cell 5 rfl
  have s6 := HX.out.cell 6 rfl
  have s7 := HX.out.cell 7 rfl
  have s8 := HX.out.cell 8 rfl
  refine bodyPost_ret (v := .agg #[.int .i64 512, .int .i64 255, .int .i64 0, .int .i64 0, .bool false, .bool false, .bool false, .bool false, .slice (some ⟨w.heap.size + 1, 0, none⟩) 16 16]) (by simp [results, Tryd.results5, go_sem, s0, s1, s2, s3, s4, s5, s6, s7, s8]) rfl ?_
  exact ⟨some ⟨w.heap.size + 1, 0, none⟩, 16, rfl, Lib.hid (OwnA.one (d := .I zRegs) ⟨_, _, rfl, HO.out⟩), HB.out⟩
end Go.Proofs.YtophgbjbinaekaaDoor

/- NewFlash on both sides. -/
namespace Go.Proofs.YtophgbjbinaekaaDoor
open Go.RowKit

def newZ : List Int := List.replicate 256 255
theorem newZ_len : newZ.length = 256 := List.length_replicate
theorem erase_all : eraseN zZ zG 16 = newZ := by decide +kernel

set_option maxRecDepth 100000 in
set_option maxHeartbeats 4000000 in
theorem implNewFlash (w : World) : Calls Tryd.prog 13 #[] w (GivesFlash newZ zG 0 w) := by
  obtain ⟨zc, hzc⟩ : ∃ zc, zc = zC.toArray := ⟨_, rfl⟩
  obtain ⟨W0, hW0⟩ : ∃ W0, W0 = (w.alloc (.cells #[.slice none 0 0, .slice none 0 0, .int .i64 0] 30)) := ⟨_, rfl⟩
  have hs0 : W0.heap.size = w.heap.size + 1 := by rw [hW0]; simp
  have Y0 : Box W0 w.heap.size 30 #[.slice none 0 0, .slice none 0 0, .int .i64 0] := by rw [hW0]; exact Box.new _ _ _
  have hb0 : Below w.heap.size w W0 := by rw [hW0]; exact alloc_below _ _
  have X1 : BC (W0.alloc (.cells zc 65)) (w.heap.size + 1) zZ zG 0 := by have := BC.newZ W0; rw [hs0, ← hzc] at this; exact this
  have Y1 := Y0.alloc (.cells zc 65)
  have hb1 := bt hb0 (alloc_below W0 (.cells zc 65))
  have HIn := Lib.hid infoCx
  rw [← hzc] at HIn
  have HEr := Lib.hid (fun b (hb : b < 16) zs' (hz' : zs'.length = 256) W => chipErase b zs' zG 0 W hz' zG_len hb)
  have HX := Lib.hid (And.intro X1 (And.intro Y1 hb1))
  have HW0 := Lib.hid hW0
  have HS0 := Lib.hid hs0
  clear X1 Y1 hb1 Y0 hb0 hzc hW0 hs0
  go_enter Tryd.func13, Tryd.ntmps13
  go_wp2_with (first
    | (rw [← HW0.out]; with_reducible refine wpList_alloc_at rfl 65 rfl zc HIn.out (w.heap.size + 1) HS0.out ?_))
  go_loopw [3] (fun i wr => ∃ j : Nat, j ≤ 16 ∧ i = .int .i64 j ∧ Below w.heap.size w wr ∧ Hid (BC wr (w.heap.size + 1) (eraseN zZ zG j) zG 0) ∧ Hid (Box wr w.heap.size 30 #[.slice none 0 0, .slice none 0 0, .int .i64 0])) (fun i _ => 16 - (intOf i).toNat)
  case atStart => exact ⟨0, by omega, rfl, HX.out.2.2, Lib.hid HX.out.1, Lib.hid HX.out.2.1⟩
  case round =>
    clear HX HW0 HS0
    obtain ⟨j, hj, rfl, hbw, X, Y⟩ := hrel
    by_cases hlt : j < 16
    · have HLd := Lib.hid (X.out.loads (by rw [eraseN_len]; exact zZ_len) zG_len)
      have HE : Hid (Calls Tryd.prog 25 #[.agg (chipC (eraseN zZ zG j) zG 0).toArray, .int .i64 j] wr fun e w' => e = .returned (.agg (chipC (eraseN zZ zG (j + 1)) zG 0).toArray) ∧ Below wr.heap.size wr w') := Lib.hid (HEr.out j hlt (eraseN zZ zG j) (by rw [eraseN_len]; exact zZ_len) wr)
      have HSt := Lib.hid (fun w' (hb : Below wr.heap.size wr w') => (X.out.step hb).stores (zs' := eraseN zZ zG (j + 1)) (gs' := zG) (st' := 0) (by rw [eraseN_len]; exact zZ_len) zG_len (by rw [eraseN_len]; exact zZ_len) zG_len)
      have HXn := Lib.hid (fun w' (hb : Below wr.heap.size wr w') => X.out.again (zs' := eraseN zZ zG (j + 1)) (gs' := zG) (st' := 0) hb (by rw [eraseN_len, eraseN_len]) rfl)
      have HYn := Lib.hid (fun w' (hb : Below wr.heap.size wr w') cs => setCells_far (Y.out.step hb) (show w.heap.size ≠ w.heap.size + 1 by omega) 0 cs)
      generalize hca : chipC (eraseN zZ zG j) zG 0 = ca at HLd HE
      generalize hcb : chipC (eraseN zZ zG (j + 1)) zG 0 = cb at HE HSt HXn
      have hi : (j : Int) < 16 := by omega
      clear X Y hca hcb
      go_wp2_with (first
        | (with_reducible refine wpList_load_mid rfl 65 (.tmp 1) rfl (w.heap.size + 1) 0 rfl ca _ HLd.out.range Tryd.underlying65 rfl HLd.out.size ?_))
      refine HE.out.mono ?_
      rintro e w2 ⟨rfl, hb2⟩
      have HS := Lib.hid (HSt.out w2 hb2)
      go_wp2_with (first
        | (with_reducible refine wpList_store_mid rfl 65 (.tmp 1) (.tmp 8) rfl (w.heap.size + 1) 0 cb.toArray rfl rfl HS.out.room HS.out.size HS.out.one ?_))
      go_roundw
      case rel => exact ⟨j + 1, by omega, by go_num, below_setCellsC (bt hbw hb2) (by omega) 0 cb, Lib.hid (HXn.out w2 hb2), Lib.hid (HYn.out w2 hb2 cb)⟩
      case measure => simp [intOf]; omega
    · obtain rfl : j = 16 := by omega
      have HX : Hid (BC wr (w.heap.size + 1) newZ zG 0) := Lib.hid (by have := X.out; rwa [erase_all] at this)
      have HLd := Lib.hid (HX.out.loads newZ_len zG_len)
      have HF := Lib.hid (chipFlash newZ zG 0 wr newZ_len zG_len (by intro z hz; have := List.eq_of_mem_replicate hz; omega))
      generalize hca : chipC newZ zG 0 = ca at HLd HF
      clear hca X HEr HIn
      go_wp2_with (first
        | (with_reducible refine wpList_load_mid rfl 65 (.tmp 1) rfl (w.heap.size + 1) 0 rfl ca _ HLd.out.range Tryd.underlying65 rfl HLd.out.size ?_))
      refine HF.out.mono ?_
      rintro e w3 ⟨A3, n3, c3, C3, m3, d3, rfl, L3, M3, S3, R3, hb3⟩
      have Y3 := Y.out.step hb3
      have s0 := Y3.cell 0 rfl
      have s1 := Y3.cell 1 rfl
      have s2 := Y3.cell 2 rfl
      have s0z := Y3.frozen 0
      have s1z := Y3.frozen 1
      have s2z := Y3.frozen 2
      have HY3 := Lib.hid Y3
      clear Y3
      go_wp2
      refine bodyPost_ret (v := .agg #[.slice A3 n3 c3, .slice C3 m3 d3, .int .i64 0]) (by simp [results, Tryd.results13, go_sem, s0, s1, s2]) rfl ?_
      exact ⟨_, _, _, _, _, _, rfl, L3, M3, Lib.hid ((S3.out.far3 HY3.out _ _ _).wideB hbw.size (by rw [size3]; exact Nat.le_refl _)), Lib.hid ((R3.out.far3 HY3.out _ _ _).wide hbw.size (by rw [size3]; exact Nat.le_refl _)), below3 (bt hbw hb3) (by omega) _ _ _⟩

end Go.Proofs.YtophgbjbinaekaaDoor

/- Decode on both sides, whole. Written by gen_opdec2.py. -/
namespace Go.Proofs.YtophgbjbinaekaaDoor
open Go.RowKit
section
variable (a b c : Int) (w : World)
end
end Go.Proofs.YtophgbjbinaekaaDoor
