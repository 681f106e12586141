/- Contracts of chip.wipe and chip.cycle. -/
import Derived.Test.YtieljgoodmoacaaChipCycle
namespace Go.Proofs.Ytieljgoodmoacaa
open Go.RowKit

/-- One round of 'c = c.erase(block)' : the chip in block b is replaced. -/
theorem BC.again {w w' : World} {b : Nat} {zs zs' : List Int} {gs gs' : List Bool} {st st' : Int} (h : BC w b zs gs st) (hb : Below w.heap.size w w') (h1 : zs'.length = zs.length) (h2 : gs'.length = gs.length) : BC (w'.setCells b 0 (chipC zs' gs' st')) b zs' gs' st' := (h.step hb).put h1 h2
/-- What a load of a chip, and a store into its block, want. -/
structure Loads (W : World) (b : Nat) (cs : List Value) : Prop where
  range : W.rangeAt b 0 cs
  size : (Try.prog.info? 97).map (·.size) = some cs.length
theorem BC.loads {W : World} {b : Nat} {zs : List Int} {gs : List Bool} {st : Int} (h : BC W b zs gs st) (hz : zs.length = 256) (hg : gs.length = 16) : Loads W b (chipC zs gs st) := ⟨h.range, sizeC zs gs st hz hg⟩
structure Stores (W : World) (b : Nat) (cs : List Value) : Prop where
  room : W.there b 0 cs.toArray.size
  size : (Try.prog.info? 97).map (·.size) = some cs.toArray.size
  one : cs.toArray.all (·.oneCell') = true
theorem BC.stores {W : World} {b : Nat} {zs zs' : List Int} {gs gs' : List Bool} {st st' : Int} (h : BC W b zs gs st) (hz : zs.length = 256) (hg : gs.length = 16) (hz' : zs'.length = 256) (hg' : gs'.length = 16) : Stores W b (chipC zs' gs' st') :=
  ⟨by rw [show (chipC zs' gs' st').toArray.size = 273 from List.size_toArray.trans (chipC_273 hz' hg' st')]; exact h.there273 hz hg, (sizeC zs' gs' st' hz' hg').trans (congrArg some List.size_toArray.symm), all_oneCell_toArray (chipC_one zs' gs' st')⟩

set_option maxRecDepth 100000 in
set_option maxHeartbeats 4000000 in
theorem chipWipe (k v : Nat) (zs : List Int) (gs : List Bool) (st : Int) (w : World) (hz : zs.length = 256) (hg : gs.length = 16) (hk : k < 256) (hv : v < 256) :
    Calls Try.prog 114 #[.agg (chipC zs gs st).toArray, .int .i64 k, .int .u8 v] w (GivesChip (wipeZ zs gs k v) gs st w) := by
  obtain ⟨X0, Y0, hb0⟩ := two_chips w zs gs st
  have HB := Lib.hid (fun W => blockOf k (by omega) W)
  have HEr := Lib.hid (fun b (hb : b < 16) zs' (hz' : zs'.length = 256) W => chipErase b zs' gs st W hz' hg hb)
  have HL := Lib.hid (And.intro hz hg)
  have HIn := Lib.hid infoCx
  obtain ⟨zc, hzc⟩ : ∃ zc, zc = zC.toArray := ⟨_, rfl⟩
  rw [← hzc] at HIn X0 Y0 hb0
  obtain ⟨W1, hW1⟩ : ∃ W1, W1 = (w.alloc (.cells (chipC zs gs st).toArray 97)).alloc (.cells zc 97) := ⟨_, rfl⟩
  have hkd : k / 16 < 16 := by omega
  by_cases hv16 : v = 16
  · subst hv16
    by_cases hk85 : k = 85
    · subst hk85
      have HR : Hid (wipeZ zs gs 85 16 = eraseN zs gs 16) := Lib.hid (by unfold wipeZ; rw [if_pos rfl, if_pos rfl])
      rw [← hW1] at X0 Y0 hb0
      have HX := Lib.hid (And.intro X0 (And.intro Y0 hb0))
      generalize hcs : chipC zs gs st = cs at hW1
      have HW1 := Lib.hid hW1
      clear hz hg X0 Y0 hb0 hzc hcs hW1
      go_enter Try.func114, Try.ntmps114
      go_wp2_with (first
        | (with_reducible refine wpList_alloc_big rfl 97 rfl zc HIn.out ?_)
        | (go_at_call 116; refine (HB.out _).mono ?_; rintro e w' ⟨rfl, rfl⟩))
      rw [← HW1.out]
      go_loopw [9] (fun i wr => ∃ j : Nat, j ≤ 16 ∧ i = .int .i64 j ∧ Below w.heap.size w wr ∧ Hid (BC wr w.heap.size (eraseN zs gs j) gs st) ∧ Hid (BC wr (w.heap.size + 1) zZ zG 0)) (fun i _ => 16 - (intOf i).toNat)
      case atStart => exact ⟨0, by omega, rfl, HX.out.2.2, Lib.hid HX.out.1, Lib.hid HX.out.2.1⟩
      case round =>
        clear HX HW1
        obtain ⟨j, hj, rfl, hbw, X, Y⟩ := hrel
        by_cases hlt : j < 16
        · have HLd := Lib.hid (X.out.loads (by rw [eraseN_len]; exact HL.out.1) HL.out.2)
          have HE := Lib.hid (HEr.out j hlt (eraseN zs gs j) (by rw [eraseN_len]; exact HL.out.1) wr)
          have HE2 : Hid (Calls Try.prog 118 #[.agg (chipC (eraseN zs gs j) gs st).toArray, .int .i64 j] wr fun e w' => e = .returned (.agg (chipC (eraseN zs gs (j + 1)) gs st).toArray) ∧ Below wr.heap.size wr w') := HE
          have HSt := Lib.hid (fun w' (hb : Below wr.heap.size wr w') => (X.out.step hb).stores (zs' := eraseN zs gs (j + 1)) (gs' := gs) (st' := st) (by rw [eraseN_len]; exact HL.out.1) HL.out.2 (by rw [eraseN_len]; exact HL.out.1) HL.out.2)
          have HXn := Lib.hid (fun w' (hb : Below wr.heap.size wr w') => X.out.again (zs' := eraseN zs gs (j + 1)) (gs' := gs) (st' := st) hb (by rw [eraseN_len, eraseN_len]) rfl)
          have HYn := Lib.hid (fun w' (hb : Below wr.heap.size wr w') cs => (Y.out.step hb).far' (show w.heap.size + 1 ≠ w.heap.size by omega) 0 cs)
          generalize hca : chipC (eraseN zs gs j) gs st = ca at HLd HE2
          generalize hcb : chipC (eraseN zs gs (j + 1)) gs st = cb at HE2 HSt HXn
          have hi : (j : Int) ≤ 15 := by omega
          clear HE X Y hca hcb HR
          go_wp2_with (first
            | (with_reducible refine wpList_load_mid rfl 97 (.tmp 3) rfl w.heap.size 0 rfl ca _ HLd.out.range Try.underlying97 rfl HLd.out.size ?_))
          refine HE2.out.mono ?_
          rintro e w2 ⟨rfl, hb2⟩
          have HS := Lib.hid (HSt.out w2 hb2)
          go_wp2_with (first
            | (with_reducible refine wpList_store_mid rfl 97 (.tmp 3) (.tmp 30) rfl w.heap.size 0 cb.toArray rfl rfl HS.out.room HS.out.size HS.out.one ?_))
          go_roundw
          case rel => exact ⟨j + 1, by omega, by go_num, below_setCellsC (bt hbw hb2) (Nat.le_refl _) 0 cb, Lib.hid (HXn.out w2 hb2), Lib.hid (HYn.out w2 hb2 cb)⟩
          case measure => simp [intOf] <;> omega
        · obtain rfl : j = 16 := by omega
          have HH := Lib.hid (X.out.hands Y.out (by rw [eraseN_len]; exact HL.out.1) HL.out.2 zZ_len zG_len)
          rw [← HR.out] at HH
          generalize hcs : chipC (wipeZ zs gs 85 16) gs st = cs at HH
          have HCs := Lib.hid hcs
          clear hcs X Y
          go_wp2_with (first
            | (with_reducible refine wpList_load_mid rfl 97 (.tmp 3) rfl w.heap.size 0 rfl cs _ HH.out.range Try.underlying97 rfl HH.out.size ?_)
            | (with_reducible refine wpList_store_mid rfl 97 (.tmp 6) (.tmp 31) rfl (w.heap.size + 1) 0 cs.toArray rfl rfl HH.out.room HH.out.size' HH.out.one ?_))
          refine bodyPost_ret (v := .agg cs.toArray) (results_cellC Try.results114 (by rfl) HH.out.back) rfl ?_
          exact ⟨by rw [HCs.out], below_setCellsC hbw (by omega) 0 cs⟩
    · have hq : ((k : Int) != 85) = true := by simp; omega
      have HR : Hid (wipeZ zs gs k 16 = zs) := Lib.hid (by unfold wipeZ; rw [if_pos rfl, if_neg hk85])
      rw [← hW1] at X0 Y0 hb0
      have HH := Lib.hid (X0.hands Y0 hz hg zZ_len zG_len)
      have HBl := Lib.hid hb0
      generalize hcs : chipC zs gs st = cs at HH hW1
      have HCs : Hid (chipC (wipeZ zs gs k 16) gs st = cs) := Lib.hid (by rw [HR.out]; exact hcs)
      have HW1 := Lib.hid hW1
      clear hz hg X0 Y0 hb0 hzc hcs hW1 hk85 HR
      go_enter Try.func114, Try.ntmps114
      go_wp2_with (first
        | (with_reducible refine wpList_alloc_big rfl 97 rfl zc HIn.out ?_)
        | (go_at_call 116; refine (HB.out _).mono ?_; rintro e w' ⟨rfl, rfl⟩)
        | (rw [← HW1.out]; with_reducible refine wpList_load_mid rfl 97 (.tmp 3) rfl w.heap.size 0 rfl cs _ HH.out.range Try.underlying97 rfl HH.out.size ?_)
        | (with_reducible refine wpList_store_mid rfl 97 (.tmp 6) (.tmp 21) rfl (w.heap.size + 1) 0 cs.toArray rfl rfl HH.out.room HH.out.size' HH.out.one ?_))
      refine bodyPost_ret (v := .agg cs.toArray) (results_cellC Try.results114 (by rfl) HH.out.back) rfl ?_
      exact ⟨by rw [HCs.out], below_setCellsC HBl.out (by omega) 0 cs⟩
  · have hq16 : ((v : Int) == 16) = false := by simp; omega
    by_cases hv48 : v = 48
    · subst hv48
      have HR : Hid (wipeZ zs gs k 48 = eraseL zs gs (k / 16)) := Lib.hid (by unfold wipeZ; rw [if_neg (by omega), if_pos rfl])
      rw [← hW1] at X0 Y0 hb0
      have HX := Lib.hid (And.intro X0 (And.intro Y0 hb0))
      generalize hcs : chipC zs gs st = cs at hW1
      have HW1 := Lib.hid hW1
      clear hz hg X0 Y0 hb0 hzc hcs hW1
      obtain ⟨kb, hkb⟩ : ∃ kb, kb = k / 16 := ⟨_, rfl⟩
      rw [← hkb] at hkd HR HB
      have HKb := Lib.hid hkb
      clear hkb
      go_enter Try.func114, Try.ntmps114
      go_wp2_with (first
        | (with_reducible refine wpList_alloc_big rfl 97 rfl zc HIn.out ?_)
        | (go_at_call 116; refine (HB.out _).mono ?_; rintro e w' ⟨rfl, rfl⟩))
      rw [← HW1.out]
      go_loopw [9] (fun i wr => ∃ j : Nat, j ≤ 1 ∧ i = .int .i64 ((kb + j : Nat) : Int) ∧ Below w.heap.size w wr ∧ Hid (BC wr w.heap.size (if j = 0 then zs else eraseL zs gs kb) gs st) ∧ Hid (BC wr (w.heap.size + 1) zZ zG 0)) (fun i _ => kb + 1 - (intOf i).toNat)
      case atStart => exact ⟨0, by omega, rfl, HX.out.2.2, Lib.hid HX.out.1, Lib.hid HX.out.2.1⟩
      case round =>
        clear HX HW1
        obtain ⟨j, hj, rfl, hbw, X0, Y⟩ := hrel
        by_cases hlt : j = 0
        · subst hlt
          have X : Hid (BC wr w.heap.size zs gs st) := Lib.hid (by have := X0.out; rwa [if_pos rfl] at this)
          have HLd := Lib.hid (X.out.loads HL.out.1 HL.out.2)
          have HE := Lib.hid (HEr.out kb hkd zs HL.out.1 wr)
          have HE2 : Hid (Calls Try.prog 118 #[.agg (chipC zs gs st).toArray, .int .i64 kb] wr fun e w' => e = .returned (.agg (chipC (eraseL zs gs kb) gs st).toArray) ∧ Below wr.heap.size wr w') := HE
          have HSt := Lib.hid (fun w' (hb : Below wr.heap.size wr w') => (X.out.step hb).stores (zs' := eraseL zs gs kb) (gs' := gs) (st' := st) HL.out.1 HL.out.2 (by rw [eraseL_len]; exact HL.out.1) HL.out.2)
          have HXn := Lib.hid (fun w' (hb : Below wr.heap.size wr w') => X.out.again (zs' := eraseL zs gs kb) (gs' := gs) (st' := st) hb (by rw [eraseL_len]) rfl)
          have HYn := Lib.hid (fun w' (hb : Below wr.heap.size wr w') cs => (Y.out.step hb).far' (show w.heap.size + 1 ≠ w.heap.size by omega) 0 cs)
          generalize hca : chipC zs gs st = ca at HLd HE2
          generalize hcb : chipC (eraseL zs gs kb) gs st = cb at HE2 HSt HXn
          clear HE X X0 Y hca hcb HR
          go_wp2_with (first
            | (with_reducible refine wpList_load_mid rfl 97 (.tmp 3) rfl w.heap.size 0 rfl ca _ HLd.out.range Try.underlying97 rfl HLd.out.size ?_))
          refine HE2.out.mono ?_
          rintro e w2 ⟨rfl, hb2⟩
          have HS := Lib.hid (HSt.out w2 hb2)
          go_wp2_with (first
            | (with_reducible refine wpList_store_mid rfl 97 (.tmp 3) (.tmp 30) rfl w.heap.size 0 cb.toArray rfl rfl HS.out.room HS.out.size HS.out.one ?_))
          go_roundw
          case rel => exact ⟨1, by omega, by go_num, below_setCellsC (bt hbw hb2) (Nat.le_refl _) 0 cb, Lib.hid (by rw [if_neg (by omega)]; exact HXn.out w2 hb2), Lib.hid (HYn.out w2 hb2 cb)⟩
          case measure => simp [intOf] <;> omega
        · obtain rfl : j = 1 := by omega
          have X : Hid (BC wr w.heap.size (eraseL zs gs kb) gs st) := Lib.hid (by have := X0.out; rwa [if_neg (by omega)] at this)
          have HH := Lib.hid (X.out.hands Y.out (by rw [eraseL_len]; exact HL.out.1) HL.out.2 zZ_len zG_len)
          rw [← HR.out] at HH
          generalize hcs : chipC (wipeZ zs gs k 48) gs st = cs at HH
          have HCs := Lib.hid hcs
          clear hcs X X0 Y hlt
          go_wp2_with (first
            | (with_reducible refine wpList_load_mid rfl 97 (.tmp 3) rfl w.heap.size 0 rfl cs _ HH.out.range Try.underlying97 rfl HH.out.size ?_)
            | (with_reducible refine wpList_store_mid rfl 97 (.tmp 6) (.tmp 31) rfl (w.heap.size + 1) 0 cs.toArray rfl rfl HH.out.room HH.out.size' HH.out.one ?_))
          refine bodyPost_ret (v := .agg cs.toArray) (results_cellC Try.results114 (by rfl) HH.out.back) rfl ?_
          exact ⟨by rw [HCs.out], below_setCellsC hbw (by omega) 0 cs⟩
    · have hq48 : ((v : Int) == 48) = false := by simp; omega
      have HR : Hid (wipeZ zs gs k v = zs) := Lib.hid (by unfold wipeZ; rw [if_neg hv16, if_neg hv48])
      rw [← hW1] at X0 Y0 hb0
      have HH := Lib.hid (X0.hands Y0 hz hg zZ_len zG_len)
      have HBl := Lib.hid hb0
      generalize hcs : chipC zs gs st = cs at HH hW1
      have HCs : Hid (chipC (wipeZ zs gs k v) gs st = cs) := Lib.hid (by rw [HR.out]; exact hcs)
      have HW1 := Lib.hid hW1
      clear hz hg X0 Y0 hb0 hzc hcs hW1 HR hv16 hv48
      go_enter Try.func114, Try.ntmps114
      go_wp2_with (first
        | (with_reducible refine wpList_alloc_big rfl 97 rfl zc HIn.out ?_)
        | (go_at_call 116; refine (HB.out _).mono ?_; rintro e w' ⟨rfl, rfl⟩)
        | (rw [← HW1.out]; with_reducible refine wpList_load_mid rfl 97 (.tmp 3) rfl w.heap.size 0 rfl cs _ HH.out.range Try.underlying97 rfl HH.out.size ?_)
        | (with_reducible refine wpList_store_mid rfl 97 (.tmp 6) (.tmp 31) rfl (w.heap.size + 1) 0 cs.toArray rfl rfl HH.out.room HH.out.size' HH.out.one ?_))
      refine bodyPost_ret (v := .agg cs.toArray) (results_cellC Try.results114 (by rfl) HH.out.back) rfl ?_
      exact ⟨by rw [HCs.out], below_setCellsC HBl.out (by omega) 0 cs⟩
end Go.Proofs.Ytieljgoodmoacaa
