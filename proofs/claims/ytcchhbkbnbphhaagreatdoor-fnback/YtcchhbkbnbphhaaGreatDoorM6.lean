/- Texts of this claim, one behind the other: ChipCycle, ChipWipe, ChipRead, OpDec2, NewFlash, CpuNew. -/
import Derived.Test.YtcchhbkbnbphhaaGreatDoorChipFlash
import Derived.Test.YtcchhbkbnbphhaaGreatDoorOpDec
import Derived.Test.YtcchhbkbnbphhaaGreatDoorM5
/- Contracts of commanded, chip.next, chip.wipe. -/
namespace Go.Proofs.YtcchhbkbnbphhaaGreatDoor
open Go.RowKit

def cmdS (v : Int) : Int := if v = 160 then 3 else if v = 128 then 4 else if v = 144 then 7 else if v = 154 then 8 else 0
def nextS (st k v : Int) : Int :=
  if st = 0 ∨ st = 4 then (if k = 85 ∧ v = 170 then st + 1 else 0)
  else if st = 1 ∨ st = 5 then (if k = 42 ∧ v = 85 then st + 1 else 0)
  else if st = 2 then (if k = 85 then cmdS v else 0)
  else if st = 7 then (if v = 240 then 0 else 7)
  else 0
def eraseN (zs : List Int) (gs : List Bool) : Nat → List Int
  | 0 => zs
  | n + 1 => eraseL (eraseN zs gs n) gs n
theorem eraseN_len (zs : List Int) (gs : List Bool) : ∀ n, (eraseN zs gs n).length = zs.length
  | 0 => rfl
  | n + 1 => by rw [eraseN, eraseL_len, eraseN_len zs gs n]
def wipeZ (zs : List Int) (gs : List Bool) (k v : Nat) : List Int :=
  if v = 16 then (if k = 85 then eraseN zs gs 16 else zs) else if v = 48 then eraseL zs gs (k / 16) else zs
theorem wipeZ_len (zs : List Int) (gs : List Bool) (k v : Nat) : (wipeZ zs gs k v).length = zs.length := by
  unfold wipeZ
  split
  · split
    · exact eraseN_len _ _ _
    · rfl
  · split
    · exact eraseL_len _ _ _
    · rfl

set_option maxRecDepth 100000 in
theorem commanded (v : Int) (w : World) : Calls Tryz.prog 160 #[.int .u8 v] w fun e w' => e = .returned (.int .i64 (cmdS v)) ∧ w = w' := by
  go_enter Tryz.func160, Tryz.ntmps160
  go_wp2
  all_goals go_ret
  all_goals (refine ⟨ret_int ?_, rfl⟩)
  all_goals (unfold cmdS; simp_all)

set_option maxRecDepth 100000 in
set_option maxHeartbeats 4000000 in
theorem chipNext (k v : Nat) (zs : List Int) (gs : List Bool) (st : Int) (w : World) (hz : zs.length = 256) (hg : gs.length = 16) (hs : 0 ≤ st ∧ st ≤ 8) :
    Calls Tryz.prog 158 #[.agg (chipC zs gs st).toArray, .int .i64 k, .int .u8 v] w fun e w' => e = .returned (.int .i64 (nextS st k v)) ∧ Below w.heap.size w w' := by
  have hb0 := alloc_below w (.cells (chipC zs gs st).toArray 94)
  have x0 := (BC.new w zs gs st).state hz hg
  generalize chipC zs gs st = cs at hb0 x0
  clear hz hg
  have h9 : st = 0 ∨ st = 1 ∨ st = 2 ∨ st = 3 ∨ st = 4 ∨ st = 5 ∨ st = 6 ∨ st = 7 ∨ st = 8 := by omega
  clear hs
  have hcm := fun W => commanded (v : Int) W
  have HC := Lib.hid hcm
  clear hcm
  rcases h9 with rfl | rfl | rfl | rfl | rfl | rfl | rfl | rfl | rfl
  all_goals (
    go_enter Tryz.func158, Tryz.ntmps158
    go_wp2_with (first | (go_at_call 160; refine (HC.out _).mono ?_; rintro e w' ⟨rfl, rfl⟩)))
  all_goals go_ret
  all_goals (refine ⟨ret_int ?_, hb0⟩)
  all_goals (unfold nextS; simp_all)
end Go.Proofs.YtcchhbkbnbphhaaGreatDoor

/- Contracts of chip.wipe and chip.cycle. -/
namespace Go.Proofs.YtcchhbkbnbphhaaGreatDoor
open Go.RowKit

theorem BC.again {w w' : World} {b : Nat} {zs zs' : List Int} {gs gs' : List Bool} {st st' : Int} (h : BC w b zs gs st) (hb : Below w.heap.size w w') (h1 : zs'.length = zs.length) (h2 : gs'.length = gs.length) : BC (w'.setCells b 0 (chipC zs' gs' st')) b zs' gs' st' := (h.step hb).put h1 h2
structure Loads (W : World) (b : Nat) (cs : List Value) : Prop where
  range : W.rangeAt b 0 cs
  size : (Tryz.prog.info? 94).map (·.size) = some cs.length
theorem BC.loads {W : World} {b : Nat} {zs : List Int} {gs : List Bool} {st : Int} (h : BC W b zs gs st) (hz : zs.length = 256) (hg : gs.length = 16) : Loads W b (chipC zs gs st) := ⟨h.range, sizeC zs gs st hz hg⟩
structure Stores (W : World) (b : Nat) (cs : List Value) : Prop where
  room : W.there b 0 cs.toArray.size
  size : (Tryz.prog.info? 94).map (·.size) = some cs.toArray.size
  one : cs.toArray.all (·.oneCell') = true
theorem BC.stores {W : World} {b : Nat} {zs zs' : List Int} {gs gs' : List Bool} {st st' : Int} (h : BC W b zs gs st) (hz : zs.length = 256) (hg : gs.length = 16) (hz' : zs'.length = 256) (hg' : gs'.length = 16) : Stores W b (chipC zs' gs' st') :=
  ⟨by rw [show (chipC zs' gs' st').toArray.size = 273 from List.size_toArray.trans (chipC_273 hz' hg' st')]; exact h.there273 hz hg, (sizeC zs' gs' st' hz' hg').trans (congrArg some List.size_toArray.symm), all_oneCell_toArray (chipC_one zs' gs' st')⟩

set_option maxRecDepth 100000 in
set_option maxHeartbeats 4000000 in
theorem chipWipe (k v : Nat) (zs : List Int) (gs : List Bool) (st : Int) (w : World) (hz : zs.length = 256) (hg : gs.length = 16) (hk : k < 256) (hv : v < 256) :
    Calls Tryz.prog 155 #[.agg (chipC zs gs st).toArray, .int .i64 k, .int .u8 v] w (GivesChip (wipeZ zs gs k v) gs st w) := by
  obtain ⟨X0, Y0, hb0⟩ := two_chips w zs gs st
  have HB := Lib.hid (fun W => blockOf k (by omega) W)
  have HEr := Lib.hid (fun b (hb : b < 16) zs' (hz' : zs'.length = 256) W => chipErase b zs' gs st W hz' hg hb)
  have HL := Lib.hid (And.intro hz hg)
  have HIn := Lib.hid infoCx
  obtain ⟨zc, hzc⟩ : ∃ zc, zc = zC.toArray := ⟨_, rfl⟩
  rw [← hzc] at HIn X0 Y0 hb0
  obtain ⟨W1, hW1⟩ : ∃ W1, W1 = (w.alloc (.cells (chipC zs gs st).toArray 94)).alloc (.cells zc 94) := ⟨_, rfl⟩
  have hkd : k / 16 < 16 := by omega
  by_cases hv16 : v = 16
  · subst hv16
    by_cases hk85 : k = 85
    · subst hk85
      have HR : Hid (wipeZ zs gs 85 16 = eraseN zs gs 16) := Lib.hid (by unfold wipeZ; rw [if_pos rfl, if_pos rfl])
      rw [← hW1] at X0 Y0 hb0
      have HX := Lib.hid (And.intro X0 (And.intro Y0 hb0))
      generalize hcs : chipC zs gs st = cs at hW1
      have HW1 := Lib.hid hW1
      clear hz hg X0 Y0 hb0 hzc hcs hW1
      go_enter Tryz.func155, Tryz.ntmps155
      go_wp2_with (first
        | (with_reducible refine wpList_alloc_big rfl 94 rfl zc HIn.out ?_)
        | (go_at_call 157; refine (HB.out _).mono ?_; rintro e w' ⟨rfl, rfl⟩))
      rw [← HW1.out]
      go_loopw [9] (fun i wr => ∃ j : Nat, j ≤ 16 ∧ i = .int .i64 j ∧ Below w.heap.size w wr ∧ Hid (BC wr w.heap.size (eraseN zs gs j) gs st) ∧ Hid (BC wr (w.heap.size + 1) zZ zG 0)) (fun i _ => 16 - (intOf i).toNat)
      case atStart => exact ⟨0, by omega, rfl, HX.out.2.2, Lib.hid HX.out.1, Lib.hid HX.out.2.1⟩
      case round =>
        clear HX HW1
        obtain ⟨j, hj, rfl, hbw, X, Y⟩ := hrel
        by_cases hlt : j < 16
        · have HLd := Lib.hid (X.out.loads (by rw [eraseN_len]; exact HL.out.1) HL.out.2)
          have HE := Lib.hid (HEr.out j hlt (eraseN zs gs j) (by rw [eraseN_len]; exact HL.out.1) wr)
          have HE2 : Hid (Calls Tryz.prog 159 #[.agg (chipC (eraseN zs gs j) gs st).toArray, .int .i64 j] wr fun e w' => e = .returned (.agg (chipC (eraseN zs gs (j + 1)) gs st).toArray) ∧ Below wr.heap.size wr w') := HE
          have HSt := Lib.hid (fun w' (hb : Below wr.heap.size wr w') => (X.out.step hb).stores (zs' := eraseN zs gs (j + 1)) (gs' := gs) (st' := st) (by rw [eraseN_len]; exact HL.out.1) HL.out.2 (by rw [eraseN_len]; exact HL.out.1) HL.out.2)
          have HXn := Lib.hid (fun w' (hb : Below wr.heap.size wr w') => X.out.again (zs' := eraseN zs gs (j + 1)) (gs' := gs) (st' := st) hb (by rw [eraseN_len, eraseN_len]) rfl)
          have HYn := Lib.hid (fun w' (hb : Below wr.heap.size wr w') cs => (Y.out.step hb).far' (show w.heap.size + 1 ≠ w.heap.size by omega) 0 cs)
          generalize hca : chipC (eraseN zs gs j) gs st = ca at HLd HE2
          generalize hcb : chipC (eraseN zs gs (j + 1)) gs st = cb at HE2 HSt HXn
          have hi : (j : Int) ≤ 15 := by omega
          clear HE X Y hca hcb HR
          go_wp2_with (first
            | (with_reducible refine wpList_load_mid rfl 94 (.tmp 3) rfl w.heap.size 0 rfl ca _ HLd.out.range Tryz.underlying94 rfl HLd.out.size ?_))
          refine HE2.out.mono ?_
          rintro e w2 ⟨rfl, hb2⟩
          have HS := Lib.hid (HSt.out w2 hb2)
          go_wp2_with (first
            | (with_reducible refine wpList_store_mid rfl 94 (.tmp 3) (.tmp 30) rfl w.heap.size 0 cb.toArray rfl rfl HS.out.room HS.out.size HS.out.one ?_))
          go_roundw
          case rel => exact ⟨j + 1, by omega, by go_num, below_setCellsC (bt hbw hb2) (Nat.le_refl _) 0 cb, Lib.hid (HXn.out w2 hb2), Lib.hid (HYn.out w2 hb2 cb)⟩
          case measure => simp [intOf] <;> omega
        · obtain rfl : j = 16 := by omega
          have HH := Lib.hid (X.out.hands Y.out (by rw [eraseN_len]; exact HL.out.1) HL.out.2 zZ_len zG_len)
          rw [← HR.out] at HH
          generalize hcs : chipC (wipeZ zs gs 85 16) gs st = cs at HH
          have HCs := Lib.hid hcs
          clear hcs X Y
          go_wp2_with (first
            | (with_reducible refine wpList_load_mid rfl 94 (.tmp 3) rfl w.heap.size 0 rfl cs _ HH.out.range Tryz.underlying94 rfl HH.out.size ?_)
            | (with_reducible refine wpList_store_mid rfl 94 (.tmp 6) (.tmp 31) rfl (w.heap.size + 1) 0 cs.toArray rfl rfl HH.out.room HH.out.size' HH.out.one ?_))
          refine bodyPost_ret (v := .agg cs.toArray) (results_cellC Tryz.results155 (by rfl) HH.out.back) rfl ?_
          exact ⟨by rw [HCs.out], below_setCellsC hbw (by omega) 0 cs⟩
    · have hq : ((k : Int) != 85) = true := by simp; omega
      have HR : Hid (wipeZ zs gs k 16 = zs) := Lib.hid (by unfold wipeZ; rw [if_pos rfl, if_neg hk85])
      rw [← hW1] at X0 Y0 hb0
      have HH := Lib.hid (X0.hands Y0 hz hg zZ_len zG_len)
      have HBl := Lib.hid hb0
      generalize hcs : chipC zs gs st = cs at HH hW1
      have HCs : Hid (chipC (wipeZ zs gs k 16) gs st = cs) := Lib.hid (by rw [HR.out]; exact hcs)
      have HW1 := Lib.hid hW1
      clear hz hg X0 Y0 hb0 hzc hcs hW1 hk85 HR
      go_enter Tryz.func155, Tryz.ntmps155
      go_wp2_with (first
        | (with_reducible refine wpList_alloc_big rfl 94 rfl zc HIn.out ?_)
        | (go_at_call 157; refine (HB.out _).mono ?_; rintro e w' ⟨rfl, rfl⟩)
        | (rw [← HW1.out]; with_reducible refine wpList_load_mid rfl 94 (.tmp 3) rfl w.heap.size 0 rfl cs _ HH.out.range Tryz.underlying94 rfl HH.out.size ?_)
        | (with_reducible refine wpList_store_mid rfl 94 (.tmp 6) (.tmp 21) rfl (w.heap.size + 1) 0 cs.toArray rfl rfl HH.out.room HH.out.size' HH.out.one ?_))
      refine bodyPost_ret (v := .agg cs.toArray) (results_cellC Tryz.results155 (by rfl) HH.out.back) rfl ?_
      exact ⟨by rw [HCs.out], below_setCellsC HBl.out (by omega) 0 cs⟩
  · have hq16 : ((v : Int) == 16) = false := by simp; omega
    by_cases hv48 : v = 48
    · subst hv48
      have HR : Hid (wipeZ zs gs k 48 = eraseL zs gs (k / 16)) := Lib.hid (by unfold wipeZ; rw [if_neg (by omega), if_pos rfl])
      rw [← hW1] at X0 Y0 hb0
      have HX := Lib.hid (And.intro X0 (And.intro Y0 hb0))
      generalize hcs : chipC zs gs st = cs at hW1
      have HW1 := Lib.hid hW1
      clear hz hg X0 Y0 hb0 hzc hcs hW1
      obtain ⟨kb, hkb⟩ : ∃ kb, kb = k / 16 := ⟨_, rfl⟩
      rw [← hkb] at hkd HR HB
      have HKb := Lib.hid hkb
      clear hkb
      go_enter Tryz.func155, Tryz.ntmps155
      go_wp2_with (first
        | (with_reducible refine wpList_alloc_big rfl 94 rfl zc HIn.out ?_)
        | (go_at_call 157; refine (HB.out _).mono ?_; rintro e w' ⟨rfl, rfl⟩))
      rw [← HW1.out]
      go_loopw [9] (fun i wr => ∃ j : Nat, j ≤ 1 ∧ i = .int .i64 ((kb + j : Nat) : Int) ∧ Below w.heap.size w wr ∧ Hid (BC wr w.heap.size (if j = 0 then zs else eraseL zs gs kb) gs st) ∧ Hid (BC wr (w.heap.size + 1) zZ zG 0)) (fun i _ => kb + 1 - (intOf i).toNat)
      case atStart => exact ⟨0, by omega, rfl, HX.out.2.2, Lib.hid HX.out.1, Lib.hid HX.out.2.1⟩
      case round =>
        clear HX HW1
        obtain ⟨j, hj, rfl, hbw, X0, Y⟩ := hrel
        by_cases hlt : j = 0
        · subst hlt
          have X : Hid (BC wr w.heap.size zs gs st) := Lib.hid (by have := X0.out; rwa [if_pos rfl] at this)
          have HLd := Lib.hid (X.out.loads HL.out.1 HL.out.2)
          have HE := Lib.hid (HEr.out kb hkd zs HL.out.1 wr)
          have HE2 : Hid (Calls Tryz.prog 159 #[.agg (chipC zs gs st).toArray, .int .i64 kb] wr fun e w' => e = .returned (.agg (chipC (eraseL zs gs kb) gs st).toArray) ∧ Below wr.heap.size wr w') := HE
          have HSt := Lib.hid (fun w' (hb : Below wr.heap.size wr w') => (X.out.step hb).stores (zs' := eraseL zs gs kb) (gs' := gs) (st' := st) HL.out.1 HL.out.2 (by rw [eraseL_len]; exact HL.out.1) HL.out.2)
          have HXn := Lib.hid (fun w' (hb : Below wr.heap.size wr w') => X.out.again (zs' := eraseL zs gs kb) (gs' := gs) (st' := st) hb (by rw [eraseL_len]) rfl)
          have HYn := Lib.hid (fun w' (hb : Below wr.heap.size wr w') cs => (Y.out.step hb).far' (show w.heap.size + 1 ≠ w.heap.size by omega) 0 cs)
          generalize hca : chipC zs gs st = ca at HLd HE2
          generalize hcb : chipC (eraseL zs gs kb) gs st = cb at HE2 HSt HXn
          clear HE X X0 Y hca hcb HR
          go_wp2_with (first
            | (with_reducible refine wpList_load_mid rfl 94 (.tmp 3) rfl w.heap.size 0 rfl ca _ HLd.out.range Tryz.underlying94 rfl HLd.out.size ?_))
          refine HE2.out.mono ?_
          rintro e w2 ⟨rfl, hb2⟩
          have HS := Lib.hid (HSt.out w2 hb2)
          go_wp2_with (first
            | (with_reducible refine wpList_store_mid rfl 94 (.tmp 3) (.tmp 30) rfl w.heap.size 0 cb.toArray rfl rfl HS.out.room HS.out.size HS.out.one ?_))
          go_roundw
          case rel => exact ⟨1, by omega, by go_num, below_setCellsC (bt hbw hb2) (Nat.le_refl _) 0 cb, Lib.hid (by rw [if_neg (by omega)]; exact HXn.out w2 hb2), Lib.hid (HYn.out w2 hb2 cb)⟩
          case measure => simp [intOf] <;> omega
        · obtain rfl : j = 1 := by omega
          have X : Hid (BC wr w.heap.size (eraseL zs gs kb) gs st) := Lib.hid (by have := X0.out; rwa [if_neg (by omega)] at this)
          have HH := Lib.hid (X.out.hands Y.out (by rw [eraseL_len]; exact HL.out.1) HL.out.2 zZ_len zG_len)
          rw [← HR.out] at HH
          generalize hcs : chipC (wipeZ zs gs k 48) gs st = cs at HH
          have HCs := Lib.hid hcs
          clear hcs X X0 Y hlt
          go_wp2_with (first
            | (with_reducible refine wpList_load_mid rfl 94 (.tmp 3) rfl w.heap.size 0 rfl cs _ HH.out.range Tryz.underlying94 rfl HH.out.size ?_)
            | (with_reducible refine wpList_store_mid rfl 94 (.tmp 6) (.tmp 31) rfl (w.heap.size + 1) 0 cs.toArray rfl rfl HH.out.room HH.out.size' HH.out.one ?_))
          refine bodyPost_ret (v := .agg cs.toArray) (results_cellC Tryz.results155 (by rfl) HH.out.back) rfl ?_
          exact ⟨by rw [HCs.out], below_setCellsC hbw (by omega) 0 cs⟩
    · have hq48 : ((v : Int) == 48) = false := by simp; omega
      have HR : Hid (wipeZ zs gs k v = zs) := Lib.hid (by unfold wipeZ; rw [if_neg hv16, if_neg hv48])
      rw [← hW1] at X0 Y0 hb0
      have HH := Lib.hid (X0.hands Y0 hz hg zZ_len zG_len)
      have HBl := Lib.hid hb0
      generalize hcs : chipC zs gs st = cs at HH hW1
      have HCs : Hid (chipC (wipeZ zs gs k v) gs st = cs) := Lib.hid (by rw [HR.out]; exact hcs)
      have HW1 := Lib.hid hW1
      clear hz hg X0 Y0 hb0 hzc hcs hW1 HR hv16 hv48
      go_enter Tryz.func155, Tryz.ntmps155
      go_wp2_with (first
        | (with_reducible refine wpList_alloc_big rfl 94 rfl zc HIn.out ?_)
        | (go_at_call 157; refine (HB.out _).mono ?_; rintro e w' ⟨rfl, rfl⟩)
        | (rw [← HW1.out]; with_reducible refine wpList_load_mid rfl 94 (.tmp 3) rfl w.heap.size 0 rfl cs _ HH.out.range Tryz.underlying94 rfl HH.out.size ?_)
        | (with_reducible refine wpList_store_mid rfl 94 (.tmp 6) (.tmp 31) rfl (w.heap.size + 1) 0 cs.toArray rfl rfl HH.out.room HH.out.size' HH.out.one ?_))
      refine bodyPost_ret (v := .agg cs.toArray) (results_cellC Tryz.results155 (by rfl) HH.out.back) rfl ?_
      exact ⟨by rw [HCs.out], below_setCellsC HBl.out (by omega) 0 cs⟩
end Go.Proofs.YtcchhbkbnbphhaaGreatDoor

/- The chip's identify and read; BusRead by way of the chip. -/
namespace Go.Proofs.YtcchhbkbnbphhaaGreatDoor
open Go.RowKit

set_option maxRecDepth 100000 in
set_option maxHeartbeats 2000000 in
theorem chipIdentify (k : Nat) (zs : List Int) (gs : List Bool) (st : Int) (w : World) (hz : zs.length = 256) (hg : gs.length = 16) (hk : k ≤ 255) :
    Calls Tryz.prog 153 #[.agg (chipC zs gs st).toArray, .int .i64 k] w fun e w' => e = .returned (.int .i64 (readV zs gs 7 k)) ∧ Below w.heap.size w w' := by
  have hb0 := alloc_below w (.cells (chipC zs gs st).toArray 94)
  have hc := (BC.new w zs gs st).guard hz (k / 16) (by omega)
  have HR : Hid (∀ q, q = gs.getD (k / 16) false → readV zs gs 7 k = if k % 4 = 0 then 32 else if k % 4 = 1 then 47 else if k % 4 = 2 then (if q then 1 else 0) else 255) := Lib.hid (by intro q hq; subst hq; unfold readV; rw [if_pos rfl])
  generalize readV zs gs 7 k = r at HR
  have HR2 := Lib.hid (HR.out _ rfl)
  generalize gs.getD (k / 16) false = q at hc HR2
  generalize chipC zs gs st = cs at hb0 hc
  have HB := Lib.hid (fun W => blockOf k hk W)
  have h4 : k % 4 = 0 ∨ k % 4 = 1 ∨ k % 4 = 2 ∨ k % 4 = 3 := by omega
  have hdi : ((k / 16 : Nat) : Int) < 16 := by omega
  clear hz hg HR
  rcases h4 with h4 | h4 | h4 | h4
  · have q0 : ((k : Int) % 4 == 0) = true := by simp; omega
    have e : r = 32 := by rw [HR2.out, if_pos h4]
    clear h4 HR2
    subst e
    go_enter Tryz.func153, Tryz.ntmps153
    go_wp2
    go_ret
    exact ⟨rfl, hb0⟩
  · have q0 : ((k : Int) % 4 == 0) = false := by simp; omega
    have q1 : ((k : Int) % 4 == 1) = true := by simp; omega
    have e : r = 47 := by rw [HR2.out, if_neg (by omega), if_pos h4]
    clear h4 HR2
    subst e
    go_enter Tryz.func153, Tryz.ntmps153
    go_wp2
    go_ret
    exact ⟨rfl, hb0⟩
  · have q0 : ((k : Int) % 4 == 0) = false := by simp; omega
    have q1 : ((k : Int) % 4 == 1) = false := by simp; omega
    have q2 : ((k : Int) % 4 == 2) = true := by simp; omega
    have e : r = if q then 1 else 0 := by rw [HR2.out, if_neg (by omega), if_neg (by omega), if_pos h4]
    have HE := Lib.hid e
    clear h4 HR2 e
    cases q <;> (
      go_enter Tryz.func153, Tryz.ntmps153
      go_wp2_with (first | (go_at_call 157; refine (HB.out _).mono ?_; rintro e w' ⟨rfl, rfl⟩))
      go_ret
      exact ⟨ret_int HE.out.symm, hb0⟩)
  · have q0 : ((k : Int) % 4 == 0) = false := by simp; omega
    have q1 : ((k : Int) % 4 == 1) = false := by simp; omega
    have q2 : ((k : Int) % 4 == 2) = false := by simp; omega
    have e : r = 255 := by rw [HR2.out, if_neg (by omega), if_neg (by omega), if_neg (by omega)]
    clear h4 HR2
    subst e
    go_enter Tryz.func153, Tryz.ntmps153
    go_wp2
    go_ret
    exact ⟨rfl, hb0⟩

set_option maxRecDepth 100000 in
set_option maxHeartbeats 2000000 in
theorem chipRead (k : Nat) (zs : List Int) (gs : List Bool) (st : Int) (w : World) (hz : zs.length = 256) (hg : gs.length = 16) (hk : k ≤ 255) (hzs : ∀ z ∈ zs, 0 ≤ z ∧ z ≤ 255) :
    Calls Tryz.prog 151 #[.agg (chipC zs gs st).toArray, .int .i64 k] w fun e w' => e = .returned (.int .i64 (readV zs gs st k)) ∧ Below w.heap.size w w' := by
  have hb0 := alloc_below w (.cells (chipC zs gs st).toArray 94)
  have X := BC.new w zs gs st
  have x0 := X.state hz hg
  by_cases h7 : st = 7
  · subst h7
    have HI := Lib.hid (chipIdentify k zs gs 7 (w.alloc (.cells (chipC zs gs 7).toArray 94)) hz hg hk)
    have HLd := Lib.hid (X.loads hz hg)
    generalize readV zs gs 7 k = r at HI
    generalize chipC zs gs 7 = cs at hb0 x0 HI HLd
    clear X hz hg hzs
    go_enter Tryz.func151, Tryz.ntmps151
    go_wp2_with (first
      | (with_reducible refine wpList_load_mid rfl 94 (.tmp 2) rfl w.heap.size 0 rfl cs _ HLd.out.range Tryz.underlying94 rfl HLd.out.size ?_))
    refine HI.out.mono ?_
    rintro e w2 ⟨rfl, hb2⟩
    go_wp2
    go_ret
    exact ⟨rfl, bt hb0 hb2⟩
  · have q7 : (st == 7) = false := by simp [h7]
    have hc := X.cell k (by omega)
    have HE : Hid (readV zs gs st k = zs.getD k 0) := Lib.hid (by unfold readV; rw [if_neg h7])
    generalize readV zs gs st k = r at HE
    have hrg := hzs (zs.getD k 0) (by rw [List.getD_eq_getElem?_getD, List.getElem?_eq_getElem (by omega)]; exact List.getElem_mem _)
    generalize zs.getD k 0 = x at hc HE hrg
    have hw6 : RowKit.wrap64 x = x := by unfold RowKit.wrap64; omega
    generalize chipC zs gs st = cs at hb0 x0 hc
    have hki : (k : Int) < 256 := by omega
    clear X hz hg hzs h7
    go_enter Tryz.func151, Tryz.ntmps151
    go_wp2
    go_ret
    exact ⟨ret_int HE.out.symm, hb0⟩

end Go.Proofs.YtcchhbkbnbphhaaGreatDoor

/- Decode on both sides, whole. Written by gen_opdec2.py. -/
namespace Go.Proofs.YtcchhbkbnbphhaaGreatDoor
open Go.RowKit
section
variable (a b c : Int) (w : World)
end
end Go.Proofs.YtcchhbkbnbphhaaGreatDoor

/- NewFlash on both sides. -/
namespace Go.Proofs.YtcchhbkbnbphhaaGreatDoor
open Go.RowKit

def newZ : List Int := List.replicate 256 255
theorem newZ_len : newZ.length = 256 := List.length_replicate
theorem four_new (w : World) : ∃ W, W = ((((w.alloc (.cells #[.slice none 0 0, .slice none 0 0, .int .i64 0] 29)).alloc (.cells #[] 3)).alloc (.cells (madeCells #[.bool false] 16) 4)).alloc (.cells #[.slice (some ⟨w.heap.size + 1, 0, none⟩) 0 0, .slice (some ⟨w.heap.size + 2, 0, none⟩) 16 16, .int .i64 0] 29)) ∧ Below w.heap.size w W ∧
    Box W w.heap.size 29 #[.slice none 0 0, .slice none 0 0, .int .i64 0] ∧ Box W (w.heap.size + 1) 3 #[] ∧ Box W (w.heap.size + 2) 4 (madeCells #[.bool false] 16) ∧ Box W (w.heap.size + 3) 29 #[.slice (some ⟨w.heap.size + 1, 0, none⟩) 0 0, .slice (some ⟨w.heap.size + 2, 0, none⟩) 16 16, .int .i64 0] ∧ W.heap.size = w.heap.size + 4 := by
  obtain ⟨W1, h1⟩ : ∃ W1, W1 = w.alloc (.cells #[.slice none 0 0, .slice none 0 0, .int .i64 0] 29) := ⟨_, rfl⟩
  have s1 : W1.heap.size = w.heap.size + 1 := by rw [h1]; simp
  have b1 : Box W1 w.heap.size 29 #[.slice none 0 0, .slice none 0 0, .int .i64 0] := by rw [h1]; exact Box.new _ _ _
  have k1 : Below w.heap.size w W1 := by rw [h1]; exact alloc_below _ _
  rw [← h1]; clear h1
  obtain ⟨W2, h2⟩ : ∃ W2, W2 = W1.alloc (.cells #[] 3) := ⟨_, rfl⟩
  have s2 : W2.heap.size = w.heap.size + 2 := by rw [h2]; simp [s1]
  have b2 : Box W2 (w.heap.size + 1) 3 #[] := by rw [h2, ← s1]; exact Box.new _ _ _
  have k2 : Below W1.heap.size W1 W2 := by rw [h2]; exact alloc_below _ _
  rw [← h2]; clear h2
  obtain ⟨W3, h3⟩ : ∃ W3, W3 = W2.alloc (.cells (madeCells #[.bool false] 16) 4) := ⟨_, rfl⟩
  have s3 : W3.heap.size = w.heap.size + 3 := by rw [h3]; simp [s2]
  have b3 : Box W3 (w.heap.size + 2) 4 (madeCells #[.bool false] 16) := by rw [h3, ← s2]; exact Box.new _ _ _
  have k3 : Below W2.heap.size W2 W3 := by rw [h3]; exact alloc_below _ _
  rw [← h3]; clear h3
  refine ⟨_, rfl, bt (bt (bt k1 k2) k3) (alloc_below _ _), ((b1.step k2).step k3).alloc _, (b2.step k3).alloc _, b3.alloc _, ?_, by simp [s3]⟩
  rw [← s3]; exact Box.new _ _ _

set_option maxRecDepth 100000 in
set_option maxHeartbeats 4000000 in
theorem specNewFlash (w : World) : Calls Tryz.prog 78 #[] w (GivesFlash newZ zG 0 w) := by
  obtain ⟨W, hW, hb, b0, b1, b2, b3, hs⟩ := four_new w
  have hmkB : ∀ W : World, (Instr.makeSlice 27 (.int .i64 16) (.int .i64 16)).run Tryz.prog W = .ok (.slice (some ⟨W.heap.size, 0, none⟩) 16 16) (W.alloc (.cells (madeCells #[.bool false] 16) 4)) := fun W => run_make_row' (P := Tryz.prog) 27 4 (.bool false) 1 Tryz.underlying27 infoB rfl .i64 .i64 16 (by omega) (by omega) W
  have HB := Lib.hid (And.intro hb (And.intro b0 (And.intro b1 (And.intro b2 (And.intro b3 hs)))))
  have HW := Lib.hid hW
  clear hb b0 b1 b2 b3 hs hW
  generalize hmc : madeCells #[.bool false] 16 = mc at hmkB HB HW
  have HMc := Lib.hid hmc
  clear hmc
  go_enter Tryz.func78, Tryz.ntmps78
  go_wp2
  rw [← HW.out]
  clear hmkB HW
  go_loopw [2] (fun i wr => ∃ (j : Nat) (A : Option Addr) (c : Nat), j ≤ 256 ∧ i = .int .i64 j ∧ Below w.heap.size w wr ∧ Hid (Box wr w.heap.size 29 #[.slice none 0 0, .slice none 0 0, .int .i64 0]) ∧ Hid (Box wr (w.heap.size + 2) 4 mc) ∧ Hid (Box wr (w.heap.size + 3) 29 #[.slice A j c, .slice (some ⟨w.heap.size + 2, 0, none⟩) 16 16, .int .i64 0]) ∧ Hid (GroI wr (w.heap.size + 1) (.slice A j c) (List.replicate j 255)) ∧ Hid (w.heap.size + 4 ≤ wr.heap.size)) (fun i _ => 256 - (intOf i).toNat)
  case atStart => exact ⟨0, some ⟨w.heap.size + 1, 0, none⟩, 0, by omega, rfl, HB.out.1, Lib.hid HB.out.2.1, Lib.hid HB.out.2.2.2.1, Lib.hid HB.out.2.2.2.2.1, Lib.hid (rowv_empty (Nat.le_refl _) HB.out.2.2.1), Lib.hid (by rw [HB.out.2.2.2.2.2]; exact Nat.le_refl _)⟩
  case round =>
    clear HB
    obtain ⟨j, A, c, hj, rfl, hbw, Y, B, X, G, Z⟩ := hrel
    have x0 := X.out.cell 0 rfl
    have x1 := X.out.cell 1 rfl
    have x2 := X.out.cell 2 rfl
    have x0z := X.out.frozen 0
    by_cases hlt : j < 256
    · have HRk : Hid (wr.ownsRow (w.heap.size + 1) 3 1 (.slice A j c) j ((List.replicate j (255 : Int)).map (Value.int .i64))) := Lib.hid (by have := G.out; unfold GroI at this; rwa [List.length_replicate] at this)
      have HBa : Hid (Below wr.heap.size wr (wr.alloc (.cells #[.int .i64 255] 3))) := Lib.hid (alloc_below _ _)
      have HOw := Lib.hid (rowv_below HRk.out HBa.out)
      have HNw : Hid (∀ i u, [Value.int .i64 255][i]? = some u → (wr.alloc (.cells #[.int .i64 255] 3)).cell? ⟨wr.heap.size, i, none⟩ = some u) := Lib.hid (fun i u hi => by
        match i, hi with
        | 0, hi => simp at hi; subst hi; exact (Box.new wr 3 #[.int .i64 255]).cell 0 rfl)
      have HRep : Hid (List.replicate (j + 1) (255 : Int) = List.replicate j 255 ++ [255]) := Lib.hid List.replicate_succ'
      have hi : (j : Int) < 256 := by omega
      generalize hfl : List.replicate j (255 : Int) = fl at HRk HOw HRep
      have HLl : Hid (fl.length = j) := Lib.hid (by rw [← hfl, List.length_replicate])
      clear hfl G
      go_wp2_with (at_builtin; refine wpList_app_one rfl (.tmp 11) (.tmp 12) 23 3 rfl (.int .i64 0) 1 8 elemInt Tryz.underlying23 (w.heap.size + 1) (.slice A j c) j (fl.map (Value.int .i64)) rfl ?hown wr.heap.size 1 rfl [.int .i64 255] rfl ?hnews ?hone ?h63 ?hby ?hbase ?_)
      case hown => exact HOw.out
      case hnews => exact HNw.out
      case hone => intro u hu; simp at hu; subst hu; rfl
      case h63 => unfold maxLen; omega
      case hby => omega
      case hbase => have := Z.out; simp; omega
      intro A2 c2 w2 hR2 hc2 hg2 hb2
      have B2 := Lib.hid ((B.out.step HBa.out).grown HOw.out (by decide) hg2)
      have X2 := Lib.hid ((X.out.step HBa.out).grown HOw.out (by decide) hg2)
      have Y2 := Lib.hid ((Y.out.step HBa.out).below hb2 (by omega))
      have hbz : Below w.heap.size w w2 := (bt hbw HBa.out).trans (hb2.mono (by omega))
      have Z2 : Hid (w.heap.size + 4 ≤ w2.heap.size) := Lib.hid (by have := Z.out; have := HBa.out.size; have := hb2.size; omega)
      have u0 := X2.out.cell 0 rfl
      have u0z := X2.out.frozen 0
      have HG2 := Lib.hid (rowv_setBox hR2 X2.out (by decide) 0 (.slice A2 (j + 1) c2))
      clear hR2 hc2 hg2 hb2 hbw x0 x1 x2 x0z B X Y Z HOw HRk HNw HBa
      go_wp2
      go_roundw
      case rel =>
        refine ⟨j + 1, A2, c2, by omega, by go_num, hbz.setCell (p := ⟨w.heap.size + 3, 0, none⟩) (by show w.heap.size ≤ w.heap.size + 3; omega) _, Lib.hid (Y2.out.far (p := ⟨w.heap.size + 3, 0, none⟩) (by show w.heap.size ≠ w.heap.size + 3; omega) _), Lib.hid (B2.out.far (p := ⟨w.heap.size + 3, 0, none⟩) (by show w.heap.size + 2 ≠ w.heap.size + 3; omega) _), Lib.hid (X2.out.set 0 _), Lib.hid ?_, Lib.hid (by simpa [World.setCell] using Z2.out)⟩
        unfold GroI; rw [HRep.out, List.length_append, HLl.out, List.map_append]; exact HG2.out
      case measure => simp [intOf]; omega
    · obtain rfl : j = 256 := by omega
      have s0 := Y.out.cell 0 rfl
      have s1 := Y.out.cell 1 rfl
      have s2 := Y.out.cell 2 rfl
      have s0z := Y.out.frozen 0
      have s1z := Y.out.frozen 1
      have s2z := Y.out.frozen 2
      have HO : Hid (OwnI wr w.heap.size wr.heap.size A newZ) := Lib.hid (G.out.own (by omega))
      have HBo : Hid (OwnB wr w.heap.size wr.heap.size (some ⟨w.heap.size + 2, 0, none⟩) zG) := Lib.hid (.inr ⟨w.heap.size + 2, 16, fun _ => .bool false, rfl, by omega, B.out.lt, by rw [zG_len]; exact Nat.le_refl _, made_row (by have := B.out; rw [← HMc.out] at this; exact this), fun i hi => by
        have : zG.getD i false = false := by unfold zG; rw [List.getD_eq_getElem?_getD]; rw [zG_len] at hi; rw [List.getElem?_replicate, if_pos hi]; rfl
        rw [this]⟩)
      clear G B HMc
      go_wp2
      refine bodyPost_ret (v := .agg #[.slice A 256 c, .slice (some ⟨w.heap.size + 2, 0, none⟩) 16 16, .int .i64 0]) (by simp [results, Tryz.results78, go_sem, s0, s1, s2]) rfl ?_
      exact ⟨_, _, _, _, _, _, rfl, Lib.hid newZ_len, Lib.hid zG_len, Lib.hid ((HO.out.far3 Y.out _ _ _).wideB (Nat.le_refl _) (by rw [size3]; exact Nat.le_refl _)), Lib.hid ((HBo.out.far3 Y.out _ _ _).wide (Nat.le_refl _) (by rw [size3]; exact Nat.le_refl _)), below3 hbw (by omega) _ _ _⟩
end Go.Proofs.YtcchhbkbnbphhaaGreatDoor

/- NewCpu of both sides. -/
namespace Go.Proofs.YtcchhbkbnbphhaaGreatDoor
open Go.RowKit

theorem made_ownC {w : World} {b n L R : Nat} (h : Box w b 3 (madeCells #[.int .i64 0] n)) (hl : L ≤ b) (hr : b < R) : OwnI w L R (some ⟨b, 0, none⟩) (List.replicate n 0) :=
  .inr ⟨b, n, fun _ => .int .i64 0, rfl, hl, hr, by simp, made_row h, fun i hi => by
    rw [List.getD_eq_getElem?_getD, List.getElem?_replicate, if_pos (by simpa using hi)]; rfl⟩
def zRegs : List Int := List.replicate 16 0
def nc0 : Int := 512
def nc1 : Int := 255
def nc2 : Int := 0
def nc3 : Int := 0
def nf4 : Bool := false
def nf5 : Bool := false
def nf6 : Bool := false
def nf7 : Bool := false
set_option maxRecDepth 100000 in
set_option maxHeartbeats 2000000 in
theorem specNewCpuA (w : World) :
    Calls Tryz.prog 40 #[] w (fun e w' => ∃ rA8 rc8, e = .returned (.agg #[.int .i64 nc0, .int .i64 nc1, .int .i64 nc2, .int .i64 nc3, .bool nf4, .bool nf5, .bool nf6, .bool nf7, .slice rA8 zRegs.length rc8]) ∧ Hid (OwnA w' w.heap.size w'.heap.size [.slice rA8 zRegs.length rc8] [.I zRegs]) ∧ Below w.heap.size w w') := by
  have hmk : ∀ W : World, (Instr.makeSlice 23 (.int .i64 16) (.int .i64 16)).run Tryz.prog W = .ok (.slice (some ⟨W.heap.size, 0, none⟩) 16 16) (W.alloc (.cells (madeCells #[.int .i64 0] 16) 3)) := fun W => run_make_row' (P := Tryz.prog) 23 3 (.int .i64 0) 8 Tryz.underlying23 infoI rfl .i64 .i64 16 (by omega) (by omega) W
  obtain ⟨W0, hW0⟩ : ∃ W0, W0 = ((w.alloc (.cells #[.int .i64 512, .int .i64 255, .int .i64 0, .int .i64 0, .bool false, .bool false, .bool false, .bool false, .slice (some ⟨w.heap.size + 1, 0, none⟩) 16 16] 25)).alloc (.cells (madeCells #[.int .i64 0] 16) 3)) := ⟨_, rfl⟩
  have hb0 : Below w.heap.size w W0 := by rw [hW0]; exact bt (alloc_below _ _) (alloc_below _ _)
  have X0 : Box W0 w.heap.size 25 #[.int .i64 512, .int .i64 255, .int .i64 0, .int .i64 0, .bool false, .bool false, .bool false, .bool false, .slice (some ⟨w.heap.size + 1, 0, none⟩) 16 16] := by rw [hW0]; exact (Box.new _ _ _).alloc _
  have Y0 : Box W0 (w.heap.size + 1) 3 (madeCells #[.int .i64 0] 16) := by rw [hW0]; simpa using Box.new (w.alloc (.cells #[.int .i64 512, .int .i64 255, .int .i64 0, .int .i64 0, .bool false, .bool false, .bool false, .bool false, .slice (some ⟨w.heap.size + 1, 0, none⟩) 16 16] 25)) 3 (madeCells #[.int .i64 0] 16)
  have hs0 : W0.heap.size = w.heap.size + 2 := by rw [hW0]; simp
  have HO := Lib.hid (made_ownC Y0 (L := w.heap.size) (R := W0.heap.size) (by omega) (by omega))
  have HB := Lib.hid hb0
  have HX := Lib.hid X0
  have HW0 := Lib.hid hW0
  clear hW0 hs0 Y0 X0 hb0
  go_enter Tryz.func40, Tryz.ntmps40
  go_wp2
  rw [← HW0.out]
  have s0 := HX.out.cell 0 rfl
  have s1 := HX.out.cell 1 rfl
  have s2 := HX.out.cell 2 rfl
  have s3 := HX.out.cell 3 rfl
  have s4 := HX.out.cell 4 rfl
  have s5 := HX.out.cell 5 rfl
  have s6 := HX.out.cell 6 rfl
  have s7 := HX.out.cell 7 rfl
  have s8 := HX.out.cell 8 rfl
  refine bodyPost_ret (v := .agg #[.int .i64 512, .int .i64 255, .int .i64 0, .int .i64 0, .bool false, .bool false, .bool false, .bool false, .slice (some ⟨w.heap.size + 1, 0, none⟩) 16 16]) (by simp [results, Tryz.results40, go_sem, s0, s1, s2, s3, s4, s5, s6, s7, s8]) rfl ?_
  exact ⟨some ⟨w.heap.size + 1, 0, none⟩, 16, rfl, Lib.hid (OwnA.one (d := .I zRegs) ⟨_, _, rfl, HO.out⟩), HB.out⟩

end Go.Proofs.YtcchhbkbnbphhaaGreatDoor
