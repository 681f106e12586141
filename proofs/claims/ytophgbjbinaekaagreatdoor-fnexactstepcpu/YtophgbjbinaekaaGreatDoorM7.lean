/- Texts of this claim, one behind the other: ChipCycle, ChipWipe, ChipRead, OpDec2. -/
import Derived.Test.YtophgbjbinaekaaGreatDoorChipFlash
import Derived.Test.YtophgbjbinaekaaGreatDoorOpDec
import Derived.Test.YtophgbjbinaekaaGreatDoorM6
/- Contracts of commanded, chip.next, chip.wipe. -/
namespace Go.Proofs.YtophgbjbinaekaaGreatDoor
open Go.RowKit

def cmdS (v : Int) : Int := if v = 160 then 3 else if v = 128 then 4 else if v = 144 then 7 else if v = 154 then 8 else 0
def nextS (st k v : Int) : Int :=
  if st = 0 ∨ st = 4 then (if k = 85 ∧ v = 170 then st + 1 else 0)
  else if st = 1 ∨ st = 5 then (if k = 42 ∧ v = 85 then st + 1 else 0)
  else if st = 2 then (if k = 85 then cmdS v else 0)
  else if st = 7 then (if v = 240 then 0 else 7)
  else 0
def eraseN (zs : List Int) (gs : List Bool) : Nat → List Int
  | 0 => zs
  | n + 1 => eraseL (eraseN zs gs n) gs n
theorem eraseN_len (zs : List Int) (gs : List Bool) : ∀ n, (eraseN zs gs n).length = zs.length
  | 0 => rfl
  | n + 1 => by rw [eraseN, eraseL_len, eraseN_len zs gs n]
def wipeZ (zs : List Int) (gs : List Bool) (k v : Nat) : List Int :=
  if v = 16 then (if k = 85 then eraseN zs gs 16 else zs) else if v = 48 then eraseL zs gs (k / 16) else zs
theorem wipeZ_len (zs : List Int) (gs : List Bool) (k v : Nat) : (wipeZ zs gs k v).length = zs.length := by
  unfold wipeZ
  split
  · split
    · exact eraseN_len _ _ _
    · rfl
  · split
    · exact eraseL_len _ _ _
    · rfl

set_option maxRecDepth 100000 in
theorem commanded (v : Int) (w : World) : Calls Tryz.prog 186 #[.int .u8 v] w fun e w' => e = .returned (.int .i64 (cmdS v)) ∧ w = w' := by
  go_enter Tryz.func186, Tryz.ntmps186
  go_wp2
  all_goals go_ret
  all_goals (refine ⟨ret_int ?_, rfl⟩)
  all_goals (unfold cmdS; simp_all)

set_option maxRecDepth 100000 in
set_option maxHeartbeats 4000000 in
theorem chipNext (k v : Nat) (zs : List Int) (gs : List Bool) (st : Int) (w : World) (hz : zs.length = 256) (hg : gs.length = 16) (hs : 0 ≤ st ∧ st ≤ 8) :
    Calls Tryz.prog 184 #[.agg (chipC zs gs st).toArray, .int .i64 k, .int .u8 v] w fun e w' => e = .returned (.int .i64 (nextS st k v)) ∧ Below w.heap.size w w' := by
  have hb0 := alloc_below w (.cells (chipC zs gs st).toArray 109)
  have x0 := (BC.new w zs gs st).state hz hg
  generalize chipC zs gs st = cs at hb0 x0
  clear hz hg
  have h9 : st = 0 ∨ st = 1 ∨ st = 2 ∨ st = 3 ∨ st = 4 ∨ st = 5 ∨ st = 6 ∨ st = 7 ∨ st = 8 := by omega
  clear hs
  have hcm := fun W => commanded (v : Int) W
  have HC := Lib.hid hcm
  clear hcm
  rcases h9 with rfl | rfl | rfl | rfl | rfl | rfl | rfl | rfl | rfl
  all_goals (
    go_enter Tryz.func184, Tryz.ntmps184
    go_wp2_with (first | (go_at_call 186; refine (HC.out _).mono ?_; rintro e w' ⟨rfl, rfl⟩)))
  all_goals go_ret
  all_goals (refine ⟨ret_int ?_, hb0⟩)
  all_goals (unfold nextS; simp_all)
end Go.Proofs.YtophgbjbinaekaaGreatDoor

/- Contracts of chip.wipe and chip.cycle. -/
namespace Go.Proofs.YtophgbjbinaekaaGreatDoor
open Go.RowKit

theorem BC.again {w w' : World} {b : Nat} {zs zs' : List Int} {gs gs' : List Bool} {st st' : Int} (h : BC w b zs gs st) (hb : Below w.heap.size w w') (h1 : zs'.length = zs.length) (h2 : gs'.length = gs.length) : BC (w'.setCells b 0 (chipC zs' gs' st')) b zs' gs' st' := (h.step hb).put h1 h2
structure Loads (W : World) (b : Nat) (cs : List Value) : Prop where
  range : W.rangeAt b 0 cs
  size : (Tryz.prog.info? 109).map (·.size) = some cs.length
theorem BC.loads {W : World} {b : Nat} {zs : List Int} {gs : List Bool} {st : Int} (h : BC W b zs gs st) (hz : zs.length = 256) (hg : gs.length = 16) : Loads W b (chipC zs gs st) := ⟨h.range, sizeC zs gs st hz hg⟩
structure Stores (W : World) (b : Nat) (cs : List Value) : Prop where
  room : W.there b 0 cs.toArray.size
  size : (Tryz.prog.info? 109).map (·.size) = some cs.toArray.size
  one : cs.toArray.all (·.oneCell') = true
theorem BC.stores {W : World} {b : Nat} {zs zs' : List Int} {gs gs' : List Bool} {st st' : Int} (h : BC W b zs gs st) (hz : zs.length = 256) (hg : gs.length = 16) (hz' : zs'.length = 256) (hg' : gs'.length = 16) : Stores W b (chipC zs' gs' st') :=
  ⟨by rw [show (chipC zs' gs' st').toArray.size = 273 from List.size_toArray.trans (chipC_273 hz' hg' st')]; exact h.there273 hz hg, (sizeC zs' gs' st' hz' hg').trans (congrArg some List.size_toArray.symm), all_oneCell_toArray (chipC_one zs' gs' st')⟩

set_option maxRecDepth 100000 in
set_option maxHeartbeats 4000000 in
theorem chipWipe (k v : Nat) (zs : List Int) (gs : List Bool) (st : Int) (w : World) (hz : zs.length = 256) (hg : gs.length = 16) (hk : k < 256) (hv : v < 256) :
    Calls Tryz.prog 181 #[.agg (chipC zs gs st).toArray, .int .i64 k, .int .u8 v] w (GivesChip (wipeZ zs gs k v) gs st w) := by
  obtain ⟨X0, Y0, hb0⟩ := two_chips w zs gs st
  have HB := Lib.hid (fun W => blockOf k (by omega) W)
  have HEr := Lib.hid (fun b (hb : b < 16) zs' (hz' : zs'.length = 256) W => chipErase b zs' gs st W hz' hg hb)
  have HL := Lib.hid (And.intro hz hg)
  have HIn := Lib.hid infoCx
  obtain ⟨zc, hzc⟩ : ∃ zc, zc = zC.toArray := ⟨_, rfl⟩
  rw [← hzc] at HIn X0 Y0 hb0
  obtain ⟨W1, hW1⟩ : ∃ W1, W1 = (w.alloc (.cells (chipC zs gs st).toArray 109)).alloc (.cells zc 109) := ⟨_, rfl⟩
  have hkd : k / 16 < 16 := by omega
  by_cases hv16 : v = 16
  · subst hv16
    by_cases hk85 : k = 85
    · subst hk85
      have HR : Hid (wipeZ zs gs 85 16 = eraseN zs gs 16) := Lib.hid (by unfold wipeZ; rw [if_pos rfl, if_pos rfl])
      rw [← hW1] at X0 Y0 hb0
      have HX := Lib.hid (And.intro X0 (And.intro Y0 hb0))
      generalize hcs : chipC zs gs st = cs at hW1
      have HW1 := Lib.hid hW1
      clear hz hg X0 Y0 hb0 hzc hcs hW1
      go_enter Tryz.func181, Tryz.ntmps181
      go_wp2_with (first
        | (with_reducible refine wpList_alloc_big rfl 109 rfl zc HIn.out ?_)
        | (go_at_call 183; refine (HB.out _).mono ?_; rintro e w' ⟨rfl, rfl⟩))
      rw [← HW1.out]
      go_loopw [9] (fun i wr => ∃ j : Nat, j ≤ 16 ∧ i = .int .i64 j ∧ Below w.heap.size w wr ∧ Hid (BC wr w.heap.size (eraseN zs gs j) gs st) ∧ Hid (BC wr (w.heap.size + 1) zZ zG 0)) (fun i _ => 16 - (intOf i).toNat)
      case atStart => exact ⟨0, by omega, rfl, HX.out.2.2, Lib.hid HX.out.1, Lib.hid HX.out.2.1⟩
      case round =>
        clear HX HW1
        obtain ⟨j, hj, rfl, hbw, X, Y⟩ := hrel
        by_cases hlt : j < 16
        · have HLd := Lib.hid (X.out.loads (by rw [eraseN_len]; exact HL.out.1) HL.out.2)
          have HE := Lib.hid (HEr.out j hlt (eraseN zs gs j) (by rw [eraseN_len]; exact HL.out.1) wr)
          have HE2 : Hid (Calls Tryz.prog 185 #[.agg (chipC (eraseN zs gs j) gs st).toArray, .int .i64 j] wr fun e w' => e = .returned (.agg (chipC (eraseN zs gs (j + 1)) gs st).toArray) ∧ Below wr.heap.size wr w') := HE
          have HSt := Lib.hid (fun w' (hb : Below wr.heap.size wr w') => (X.out.step hb).stores (zs' := eraseN zs gs (j + 1)) (gs' := gs) (st' := st) (by rw [eraseN_len]; exact HL.out.1) HL.out.2 (by rw [eraseN_len]; exact HL.out.1) HL.out.2)
          have HXn := Lib.hid (fun w' (hb : Below wr.heap.size wr w') => X.out.again (zs' := eraseN zs gs (j + 1)) (gs' := gs) (st' := st) hb (by rw [eraseN_len, eraseN_len]) rfl)
          have HYn := Lib.hid (fun w' (hb : Below wr.heap.size wr w') cs => (Y.out.step hb).far' (show w.heap.size + 1 ≠ w.heap.size by omega) 0 cs)
          generalize hca : chipC (eraseN zs gs j) gs st = ca at HLd HE2
          generalize hcb : chipC (eraseN zs gs (j + 1)) gs st = cb at HE2 HSt HXn
          have hi : (j : Int) ≤ 15 := by omega
          clear HE X Y hca hcb HR
          go_wp2_with (first
            | (with_reducible refine wpList_load_mid rfl 109 (.tmp 3) rfl w.heap.size 0 rfl ca _ HLd.out.range Tryz.underlying109 rfl HLd.out.size ?_))
          refine HE2.out.mono ?_
          rintro e w2 ⟨rfl, hb2⟩
          have HS := Lib.hid (HSt.out w2 hb2)
          go_wp2_with (first
            | (with_reducible refine wpList_store_mid rfl 109 (.tmp 3) (.tmp 30) rfl w.heap.size 0 cb.toArray rfl rfl HS.out.room HS.out.size HS.out.one ?_))
          go_roundw
          case rel => exact ⟨j + 1, by omega, by go_num, below_setCellsC (bt hbw hb2) (Nat.le_refl _) 0 cb, Lib.hid (HXn.out w2 hb2), Lib.hid (HYn.out w2 hb2 cb)⟩
          case measure => simp [intOf] <;> omega
        · obtain rfl : j = 16 := by omega
          have HH := Lib.hid (X.out.hands Y.out (by rw [eraseN_len]; exact HL.out.1) HL.out.2 zZ_len zG_len)
          rw [← HR.out] at HH
          generalize hcs : chipC (wipeZ zs gs 85 16) gs st = cs at HH
          have HCs := Lib.hid hcs
          clear hcs X Y
          go_wp2_with (first
            | (with_reducible refine wpList_load_mid rfl 109 (.tmp 3) rfl w.heap.size 0 rfl cs _ HH.out.range Tryz.underlying109 rfl HH.out.size ?_)
            | (with_reducible refine wpList_store_mid rfl 109 (.tmp 6) (.tmp 31) rfl (w.heap.size + 1) 0 cs.toArray rfl rfl HH.out.room HH.out.size' HH.out.one ?_))
          refine bodyPost_ret (v := .agg cs.toArray) (results_cellC Tryz.results181 (by rfl) HH.out.back) rfl ?_
          exact ⟨by rw [HCs.out], below_setCellsC hbw (by omega) 0 cs⟩
    · have hq : ((k : Int) != 85) = true := by simp; omega
      have HR : Hid (wipeZ zs gs k 16 = zs) := Lib.hid (by unfold wipeZ; rw [if_pos rfl, if_neg hk85])
      rw [← hW1] at X0 Y0 hb0
      have HH := Lib.hid (X0.hands Y0 hz hg zZ_len zG_len)
      have HBl := Lib.hid hb0
      generalize hcs : chipC zs gs st = cs at HH hW1
      have HCs : Hid (chipC (wipeZ zs gs k 16) gs st = cs) := Lib.hid (by rw [HR.out]; exact hcs)
      have HW1 := Lib.hid hW1
      clear hz hg X0 Y0 hb0 hzc hcs hW1 hk85 HR
      go_enter Tryz.func181, Tryz.ntmps181
      go_wp2_with (first
        | (with_reducible refine wpList_alloc_big rfl 109 rfl zc HIn.out ?_)
        | (go_at_call 183; refine (HB.out _).mono ?_; rintro e w' ⟨rfl, rfl⟩)
        | (rw [← HW1.out]; with_reducible refine wpList_load_mid rfl 109 (.tmp 3) rfl w.heap.size 0 rfl cs _ HH.out.range Tryz.underlying109 rfl HH.out.size ?_)
        | (with_reducible refine wpList_store_mid rfl 109 (.tmp 6) (.tmp 21) rfl (w.heap.size + 1) 0 cs.toArray rfl rfl HH.out.room HH.out.size' HH.out.one ?_))
      refine bodyPost_ret (v := .agg cs.toArray) (results_cellC Tryz.results181 (by rfl) HH.out.back) rfl ?_
      exact ⟨by rw [HCs.out], below_setCellsC HBl.out (by omega) 0 cs⟩
  · have hq16 : ((v : Int) == 16) = false := by simp; omega
    by_cases hv48 : v = 48
    · subst hv48
      have HR : Hid (wipeZ zs gs k 48 = eraseL zs gs (k / 16)) := Lib.hid (by unfold wipeZ; rw [if_neg (by omega), if_pos rfl])
      rw [← hW1] at X0 Y0 hb0
      have HX := Lib.hid (And.intro X0 (And.intro Y0 hb0))
      generalize hcs : chipC zs gs st = cs at hW1
      have HW1 := Lib.hid hW1
      clear hz hg X0 Y0 hb0 hzc hcs hW1
      obtain ⟨kb, hkb⟩ : ∃ kb, kb = k / 16 := ⟨_, rfl⟩
      rw [← hkb] at hkd HR HB
      have HKb := Lib.hid hkb
      clear hkb
      go_enter Tryz.func181, Tryz.ntmps181
      go_wp2_with (first
        | (with_reducible refine wpList_alloc_big rfl 109 rfl zc HIn.out ?_)
        | (go_at_call 183; refine (HB.out _).mono ?_; rintro e w' ⟨rfl, rfl⟩))
      rw [← HW1.out]
      go_loopw [9] (fun i wr => ∃ j : Nat, j ≤ 1 ∧ i = .int .i64 ((kb + j : Nat) : Int) ∧ Below w.heap.size w wr ∧ Hid (BC wr w.heap.size (if j = 0 then zs else eraseL zs gs kb) gs st) ∧ Hid (BC wr (w.heap.size + 1) zZ zG 0)) (fun i _ => kb + 1 - (intOf i).toNat)
      case atStart => exact ⟨0, by omega, rfl, HX.out.2.2, Lib.hid HX.out.1, Lib.hid HX.out.2.1⟩
      case round =>
        clear HX HW1
        obtain ⟨j, hj, rfl, hbw, X0, Y⟩ := hrel
        by_cases hlt : j = 0
        · subst hlt
          have X : Hid (BC wr w.heap.size zs gs st) := Lib.hid (by have := X0.out; rwa [if_pos rfl] at this)
          have HLd := Lib.hid (X.out.loads HL.out.1 HL.out.2)
          have HE := Lib.hid (HEr.out kb hkd zs HL.out.1 wr)
          have HE2 : Hid (Calls Tryz.prog 185 #[.agg (chipC zs gs st).toArray, .int .i64 kb] wr fun e w' => e = .returned (.agg (chipC (eraseL zs gs kb) gs st).toArray) ∧ Below wr.heap.size wr w') := HE
          have HSt := Lib.hid (fun w' (hb : Below wr.heap.size wr w') => (X.out.step hb).stores (zs' := eraseL zs gs kb) (gs' := gs) (st' := st) HL.out.1 HL.out.2 (by rw [eraseL_len]; exact HL.out.1) HL.out.2)
          have HXn := Lib.hid (fun w' (hb : Below wr.heap.size wr w') => X.out.again (zs' := eraseL zs gs kb) (gs' := gs) (st' := st) hb (by rw [eraseL_len]) rfl)
          have HYn := Lib.hid (fun w' (hb : Below wr.heap.size wr w') cs => (Y.out.step hb).far' (show w.heap.size + 1 ≠ w.heap.size by omega) 0 cs)
          generalize hca : chipC zs gs st = ca at HLd HE2
          generalize hcb : chipC (eraseL zs gs kb) gs st = cb at HE2 HSt HXn
          clear HE X X0 Y hca hcb HR
          go_wp2_with (first
            | (with_reducible refine wpList_load_mid rfl 109 (.tmp 3) rfl w.heap.size 0 rfl ca _ HLd.out.range Tryz.underlying109 rfl HLd.out.size ?_))
          refine HE2.out.mono ?_
          rintro e w2 ⟨rfl, hb2⟩
          have HS := Lib.hid (HSt.out w2 hb2)
          go_wp2_with (first
            | (with_reducible refine wpList_store_mid rfl 109 (.tmp 3) (.tmp 30) rfl w.heap.size 0 cb.toArray rfl rfl HS.out.room HS.out.size HS.out.one ?_))
          go_roundw
          case rel => exact ⟨1, by omega, by go_num, below_setCellsC (bt hbw hb2) (Nat.le_refl _) 0 cb, Lib.hid (by rw [if_neg (by omega)]; exact HXn.out w2 hb2), Lib.hid (HYn.out w2 hb2 cb)⟩
          case measure => simp [intOf] <;> omega
        · obtain rfl : j = 1 := by omega
          have X : Hid (BC wr w.heap.size (eraseL zs gs kb) gs st) := Lib.hid (by have := X0.out; rwa [if_neg (by omega)] at this)
          have HH := Lib.hid (X.out.hands Y.out (by rw [eraseL_len]; exact HL.out.1) HL.out.2 zZ_len zG_len)
          rw [← HR.out] at HH
          generalize hcs : chipC (wipeZ zs gs k 48) gs st = cs at HH
          have HCs := Lib.hid hcs
          clear hcs X X0 Y hlt
          go_wp2_with (first
            | (with_reducible refine wpList_load_mid rfl 109 (.tmp 3) rfl w.heap.size 0 rfl cs _ HH.out.range Tryz.underlying109 rfl HH.out.size ?_)
            | (with_reducible refine wpList_store_mid rfl 109 (.tmp 6) (.tmp 31) rfl (w.heap.size + 1) 0 cs.toArray rfl rfl HH.out.room HH.out.size' HH.out.one ?_))
          refine bodyPost_ret (v := .agg cs.toArray) (results_cellC Tryz.results181 (by rfl) HH.out.back) rfl ?_
          exact ⟨by rw [HCs.out], below_setCellsC hbw (by omega) 0 cs⟩
    · have hq48 : ((v : Int) == 48) = false := by simp; omega
      have HR : Hid (wipeZ zs gs k v = zs) := Lib.hid (by unfold wipeZ; rw [if_neg hv16, if_neg hv48])
      rw [← hW1] at X0 Y0 hb0
      have HH := Lib.hid (X0.hands Y0 hz hg zZ_len zG_len)
      have HBl := Lib.hid hb0
      generalize hcs : chipC zs gs st = cs at HH hW1
      have HCs : Hid (chipC (wipeZ zs gs k v) gs st = cs) := Lib.hid (by rw [HR.out]; exact hcs)
      have HW1 := Lib.hid hW1
      clear hz hg X0 Y0 hb0 hzc hcs hW1 HR hv16 hv48
      go_enter Tryz.func181, Tryz.ntmps181
      go_wp2_with (first
        | (with_reducible refine wpList_alloc_big rfl 109 rfl zc HIn.out ?_)
        | (go_at_call 183; refine (HB.out _).mono ?_; rintro e w' ⟨rfl, rfl⟩)
        | (rw [← HW1.out]; with_reducible refine wpList_load_mid rfl 109 (.tmp 3) rfl w.heap.size 0 rfl cs _ HH.out.range Tryz.underlying109 rfl HH.out.size ?_)
        | (with_reducible refine wpList_store_mid rfl 109 (.tmp 6) (.tmp 31) rfl (w.heap.size + 1) 0 cs.toArray rfl rfl HH.out.room HH.out.size' HH.out.one ?_))
      refine bodyPost_ret (v := .agg cs.toArray) (results_cellC Tryz.results181 (by rfl) HH.out.back) rfl ?_
      exact ⟨by rw [HCs.out], below_setCellsC HBl.out (by omega) 0 cs⟩
end Go.Proofs.YtophgbjbinaekaaGreatDoor

/- The chip's identify and read; BusRead by way of the chip. -/
namespace Go.Proofs.YtophgbjbinaekaaGreatDoor
open Go.RowKit

set_option maxRecDepth 100000 in
set_option maxHeartbeats 2000000 in
theorem chipIdentify (k : Nat) (zs : List Int) (gs : List Bool) (st : Int) (w : World) (hz : zs.length = 256) (hg : gs.length = 16) (hk : k ≤ 255) :
    Calls Tryz.prog 179 #[.agg (chipC zs gs st).toArray, .int .i64 k] w fun e w' => e = .returned (.int .i64 (readV zs gs 7 k)) ∧ Below w.heap.size w w' := by
  have hb0 := alloc_below w (.cells (chipC zs gs st).toArray 109)
  have hc := (BC.new w zs gs st).guard hz (k / 16) (by omega)
  have HR : Hid (∀ q, q = gs.getD (k / 16) false → readV zs gs 7 k = if k % 4 = 0 then 32 else if k % 4 = 1 then 47 else if k % 4 = 2 then (if q then 1 else 0) else 255) := Lib.hid (by intro q hq; subst hq; unfold readV; rw [if_pos rfl])
  generalize readV zs gs 7 k = r at HR
  have HR2 := Lib.hid (HR.out _ rfl)
  generalize gs.getD (k / 16) false = q at hc HR2
  generalize chipC zs gs st = cs at hb0 hc
  have HB := Lib.hid (fun W => blockOf k hk W)
  have h4 : k % 4 = 0 ∨ k % 4 = 1 ∨ k % 4 = 2 ∨ k % 4 = 3 := by omega
  have hdi : ((k / 16 : Nat) : Int) < 16 := by omega
  clear hz hg HR
  rcases h4 with h4 | h4 | h4 | h4
  · have q0 : ((k : Int) % 4 == 0) = true := by simp; omega
    have e : r = 32 := by rw [HR2.out, if_pos h4]
    clear h4 HR2
    subst e
    go_enter Tryz.func179, Tryz.ntmps179
    go_wp2
    go_ret
    exact ⟨rfl, hb0⟩
  · have q0 : ((k : Int) % 4 == 0) = false := by simp; omega
    have q1 : ((k : Int) % 4 == 1) = true := by simp; omega
    have e : r = 47 := by rw [HR2.out, if_neg (by omega), if_pos h4]
    clear h4 HR2
    subst e
    go_enter Tryz.func179, Tryz.ntmps179
    go_wp2
    go_ret
    exact ⟨rfl, hb0⟩
  · have q0 : ((k : Int) % 4 == 0) = false := by simp; omega
    have q1 : ((k : Int) % 4 == 1) = false := by simp; omega
    have q2 : ((k : Int) % 4 == 2) = true := by simp; omega
    have e : r = if q then 1 else 0 := by rw [HR2.out, if_neg (by omega), if_neg (by omega), if_pos h4]
    have HE := Lib.hid e
    clear h4 HR2 e
    cases q <;> (
      go_enter Tryz.func179, Tryz.ntmps179
      go_wp2_with (first | (go_at_call 183; refine (HB.out _).mono ?_; rintro e w' ⟨rfl, rfl⟩))
      go_ret
      exact ⟨ret_int HE.out.symm, hb0⟩)
  · have q0 : ((k : Int) % 4 == 0) = false := by simp; omega
    have q1 : ((k : Int) % 4 == 1) = false := by simp; omega
    have q2 : ((k : Int) % 4 == 2) = false := by simp; omega
    have e : r = 255 := by rw [HR2.out, if_neg (by omega), if_neg (by omega), if_neg (by omega)]
    clear h4 HR2
    subst e
    go_enter Tryz.func179, Tryz.ntmps179
    go_wp2
    go_ret
    exact ⟨rfl, hb0⟩

set_option maxRecDepth 100000 in
set_option maxHeartbeats 2000000 in
theorem chipRead (k : Nat) (zs : List Int) (gs : List Bool) (st : Int) (w : World) (hz : zs.length = 256) (hg : gs.length = 16) (hk : k ≤ 255) (hzs : ∀ z ∈ zs, 0 ≤ z ∧ z ≤ 255) :
    Calls Tryz.prog 177 #[.agg (chipC zs gs st).toArray, .int .i64 k] w fun e w' => e = .returned (.int .i64 (readV zs gs st k)) ∧ Below w.heap.size w w' := by
  have hb0 := alloc_below w (.cells (chipC zs gs st).toArray 109)
  have X := BC.new w zs gs st
  have x0 := X.state hz hg
  by_cases h7 : st = 7
  · subst h7
    have HI := Lib.hid (chipIdentify k zs gs 7 (w.alloc (.cells (chipC zs gs 7).toArray 109)) hz hg hk)
    have HLd := Lib.hid (X.loads hz hg)
    generalize readV zs gs 7 k = r at HI
    generalize chipC zs gs 7 = cs at hb0 x0 HI HLd
    clear X hz hg hzs
    go_enter Tryz.func177, Tryz.ntmps177
    go_wp2_with (first
      | (with_reducible refine wpList_load_mid rfl 109 (.tmp 2) rfl w.heap.size 0 rfl cs _ HLd.out.range Tryz.underlying109 rfl HLd.out.size ?_))
    refine HI.out.mono ?_
    rintro e w2 ⟨rfl, hb2⟩
    go_wp2
    go_ret
    exact ⟨rfl, bt hb0 hb2⟩
  · have q7 : (st == 7) = false := by simp [h7]
    have hc := X.cell k (by omega)
    have HE : Hid (readV zs gs st k = zs.getD k 0) := Lib.hid (by unfold readV; rw [if_neg h7])
    generalize readV zs gs st k = r at HE
    have hrg := hzs (zs.getD k 0) (by rw [List.getD_eq_getElem?_getD, List.getElem?_eq_getElem (by omega)]; exact List.getElem_mem _)
    generalize zs.getD k 0 = x at hc HE hrg
    have hw6 : RowKit.wrap64 x = x := by unfold RowKit.wrap64; omega
    generalize chipC zs gs st = cs at hb0 x0 hc
    have hki : (k : Int) < 256 := by omega
    clear X hz hg hzs h7
    go_enter Tryz.func177, Tryz.ntmps177
    go_wp2
    go_ret
    exact ⟨ret_int HE.out.symm, hb0⟩

end Go.Proofs.YtophgbjbinaekaaGreatDoor

/- Decode on both sides, whole. Written by gen_opdec2.py. -/
namespace Go.Proofs.YtophgbjbinaekaaGreatDoor
open Go.RowKit
section
variable (a b c : Int) (w : World)
end
end Go.Proofs.YtophgbjbinaekaaGreatDoor
