/- Contracts of chip.protect, chip.program, chip.erase. -/
import Derived.Test.YtieljgoodmoacaaChip
namespace Go.Proofs.Ytieljgoodmoacaa
open Go.RowKit

/-- The call hands back this chip. -/
def GivesChip (zs : List Int) (gs : List Bool) (st : Int) (w : World) (e : Ending) (w' : World) : Prop := e = .returned (.agg (chipC zs gs st).toArray) ∧ Below w.heap.size w w'

/-- What the last two operations want, 'return c' of a chip in block b, by way of block b' : the load's range, the store's room, the value read back. -/
structure Hands (W : World) (b b' : Nat) (cs : List Value) : Prop where
  range : W.rangeAt b 0 cs
  room : W.there b' 0 cs.toArray.size
  one : cs.toArray.all (·.oneCell') = true
  size : (Try.prog.info? 97).map (·.size) = some cs.length
  size' : (Try.prog.info? 97).map (·.size) = some cs.toArray.size
  back : (loadVar 97 ⟨b', 0, none⟩).run Try.prog (W.setCells b' 0 cs) = .ok (.agg cs.toArray) (W.setCells b' 0 cs)
set_option maxRecDepth 100000 in
theorem BC.hands {W : World} {b b' : Nat} {zs zs' : List Int} {gs gs' : List Bool} {st st' : Int} (h : BC W b zs gs st) (h' : BC W b' zs' gs' st') (hz : zs.length = 256) (hg : gs.length = 16) (hz' : zs'.length = 256) (hg' : gs'.length = 16) : Hands W b b' (chipC zs gs st) :=
  ⟨h.range, by rw [List.size_toArray, chipC_273 hz hg]; exact h'.there273 hz' hg', all_oneCell_toArray (chipC_one zs gs st), sizeC zs gs st hz hg, by rw [List.size_toArray]; exact sizeC zs gs st hz hg,
    run_loadVar_mid (P := Try.prog) _ b' 0 97 _ _ (h'.put (zs' := zs) (gs' := gs) (st' := st) (hz.trans hz'.symm) (hg.trans hg'.symm)).range Try.underlying97 rfl (sizeC zs gs st hz hg)⟩
theorem two_chips (w : World) (zs : List Int) (gs : List Bool) (st : Int) : BC ((w.alloc (.cells (chipC zs gs st).toArray 97)).alloc (.cells zC.toArray 97)) w.heap.size zs gs st ∧ BC ((w.alloc (.cells (chipC zs gs st).toArray 97)).alloc (.cells zC.toArray 97)) (w.heap.size + 1) zZ zG 0 ∧ Below w.heap.size w ((w.alloc (.cells (chipC zs gs st).toArray 97)).alloc (.cells zC.toArray 97)) :=
  ⟨(BC.new _ _ _ _).alloc _, by have := BC.newZ (w.alloc (.cells (chipC zs gs st).toArray 97)); rw [World.size_alloc] at this; exact this, bt (alloc_below _ _) (alloc_below _ _)⟩

set_option maxRecDepth 100000 in
set_option maxHeartbeats 1000000 in
theorem chipProtect (k : Nat) (zs : List Int) (gs : List Bool) (st : Int) (w : World) (hz : zs.length = 256) (hg : gs.length = 16) (hk : k < 16) :
    Calls Try.prog 115 #[.agg (chipC zs gs st).toArray, .int .i64 k] w (GivesChip zs (gs.set k true) st w) := by
  obtain ⟨X0, Y0, hb0⟩ := two_chips w zs gs st
  have hc := X0.guard hz k (by omega)
  have hf := X0.frozen (256 + k)
  generalize gs.getD k false = q at hc
  obtain ⟨X1, Y1, hb1⟩ := two_chips w zs (gs.set k true) st
  have HE := Lib.hid (chipC_setGuard (st := st) hz k true (show k < gs.length by omega))
  have HH := Lib.hid (X1.hands Y1 hz (by rw [List.length_set]; exact hg) zZ_len zG_len)
  have HB := Lib.hid hb1
  generalize hcs : chipC zs (gs.set k true) st = cs at HE HH HB
  have HCs := Lib.hid hcs
  obtain ⟨W1, hW1⟩ : ∃ W1, W1 = (w.alloc (.cells cs.toArray 97)).alloc (.cells zC.toArray 97) := ⟨_, rfl⟩
  rw [← hW1] at HH HB
  have HW1 := Lib.hid hW1
  have hki : (k : Int) < 16 := by omega
  clear hz hg X0 Y0 X1 Y1 hb0 hb1 hcs hW1
  go_enter Try.func115, Try.ntmps115
  go_wp2_with (first
    | (with_reducible refine wpList_alloc_big rfl 97 rfl zC.toArray infoCx ?_)
    | (rw [HE.out, ← HW1.out]; with_reducible refine wpList_load_mid rfl 97 (.tmp 2) rfl w.heap.size 0 rfl cs _ HH.out.range Try.underlying97 rfl HH.out.size ?_)
    | (with_reducible refine wpList_store_mid rfl 97 (.tmp 4) (.tmp 8) rfl (w.heap.size + 1) 0 cs.toArray rfl rfl HH.out.room HH.out.size' HH.out.one ?_))
  refine bodyPost_ret (v := .agg cs.toArray) (results_cellC Try.results115 (by rfl) HH.out.back) rfl ?_
  exact ⟨by rw [HCs.out], below_setCellsC HB.out (by omega) 0 cs⟩

set_option maxRecDepth 100000 in
set_option maxHeartbeats 1000000 in
theorem chipProgram (k v : Nat) (zs : List Int) (gs : List Bool) (st : Int) (w : World) (hz : zs.length = 256) (hg : gs.length = 16) (hk : k < 256) (hv : v < 256) (hzs : ∀ z ∈ zs, 0 ≤ z ∧ z ≤ 255) :
    Calls Try.prog 113 #[.agg (chipC zs gs st).toArray, .int .i64 k, .int .u8 v] w (GivesChip (progL zs gs k v) gs st w) := by
  obtain ⟨X0, Y0, hb0⟩ := two_chips w zs gs st
  have hc := X0.cell k (by omega)
  have hf := X0.frozen k
  have hd := X0.guard hz (k / 16) (by omega)
  obtain ⟨z, hzk, hz2⟩ := at256 hzs k (by omega)
  obtain ⟨x, hx⟩ : ∃ x, bits .and .u8 (z : Int) (v : Int) = x := ⟨_, rfl⟩
  have HP : Hid (∀ q, gs.getD (k / 16) false = q → progL zs gs k v = if q then zs else zs.set k x) := Lib.hid (by
    intro q hq
    unfold progL
    rw [hq, hzk, ← hx, and_u8 z v hz2 hv]
    rfl)
  rw [hzk] at hc
  have hkd : ((k / 16 : Nat) : Int) < 16 := by omega
  have hki : (k : Int) < 256 := by omega
  have HB := Lib.hid (fun W => blockOf k (by omega) W)
  have HP2 := Lib.hid (HP.out _ rfl)
  generalize gs.getD (k / 16) false = q at hd HP2
  cases q
  · obtain ⟨X1, Y1, hb1⟩ := two_chips w (zs.set k x) gs st
    have HE := Lib.hid (chipC_setCell (gs := gs) (st := st) k x (show k < zs.length by omega))
    have HH := Lib.hid (X1.hands Y1 (by rw [List.length_set]; exact hz) hg zZ_len zG_len)
    have HBl := Lib.hid hb1
    have HR : Hid (progL zs gs k v = zs.set k x) := Lib.hid (by rw [HP2.out]; rfl)
    rw [← HR.out] at HE HH HBl
    generalize hcs : chipC (progL zs gs k v) gs st = cs at HE HH HBl
    have HCs := Lib.hid hcs
    obtain ⟨W1, hW1⟩ : ∃ W1, W1 = (w.alloc (.cells cs.toArray 97)).alloc (.cells zC.toArray 97) := ⟨_, rfl⟩
    rw [← hW1] at HH HBl
    have HW1 := Lib.hid hW1
    clear hz hg X0 Y0 X1 Y1 hb0 hb1 hcs hW1 HP HP2 HR hzs hzk
    go_enter Try.func113, Try.ntmps113
    go_wp2_with (first
      | (with_reducible refine wpList_alloc_big rfl 97 rfl zC.toArray infoCx ?_)
      | (go_at_call 116; refine (HB.out _).mono ?_; rintro e w' ⟨rfl, rfl⟩)
      | (rw [HE.out, ← HW1.out]; with_reducible refine wpList_load_mid rfl 97 (.tmp 3) rfl w.heap.size 0 rfl cs _ HH.out.range Try.underlying97 rfl HH.out.size ?_)
      | (with_reducible refine wpList_store_mid rfl 97 (.tmp 6) (.tmp 21) rfl (w.heap.size + 1) 0 cs.toArray rfl rfl HH.out.room HH.out.size' HH.out.one ?_))
    refine bodyPost_ret (v := .agg cs.toArray) (results_cellC Try.results113 (by rfl) HH.out.back) rfl ?_
    exact ⟨by rw [HCs.out], below_setCellsC HBl.out (by omega) 0 cs⟩
  · have HH := Lib.hid (X0.hands Y0 hz hg zZ_len zG_len)
    have HBl := Lib.hid hb0
    have HR : Hid (progL zs gs k v = zs) := Lib.hid (by rw [HP2.out]; rfl)
    generalize hcs : chipC zs gs st = cs at HH HBl hc hf hd
    have HCs : Hid (chipC (progL zs gs k v) gs st = cs) := Lib.hid (by rw [HR.out]; exact hcs)
    obtain ⟨W1, hW1⟩ : ∃ W1, W1 = (w.alloc (.cells cs.toArray 97)).alloc (.cells zC.toArray 97) := ⟨_, rfl⟩
    rw [← hW1] at HH HBl
    have HW1 := Lib.hid hW1
    clear hz hg X0 Y0 hb0 hcs hW1 HP HP2 HR hzs hzk
    go_enter Try.func113, Try.ntmps113
    go_wp2_with (first
      | (with_reducible refine wpList_alloc_big rfl 97 rfl zC.toArray infoCx ?_)
      | (go_at_call 116; refine (HB.out _).mono ?_; rintro e w' ⟨rfl, rfl⟩)
      | (rw [← HW1.out]; with_reducible refine wpList_load_mid rfl 97 (.tmp 3) rfl w.heap.size 0 rfl cs _ HH.out.range Try.underlying97 rfl HH.out.size ?_)
      | (with_reducible refine wpList_store_mid rfl 97 (.tmp 6) (.tmp 21) rfl (w.heap.size + 1) 0 cs.toArray rfl rfl HH.out.room HH.out.size' HH.out.one ?_))
    refine bodyPost_ret (v := .agg cs.toArray) (results_cellC Try.results113 (by rfl) HH.out.back) rfl ?_
    exact ⟨by rw [HCs.out], below_setCellsC HBl.out (by omega) 0 cs⟩

set_option maxRecDepth 100000 in
set_option maxHeartbeats 2000000 in
theorem chipErase (k : Nat) (zs : List Int) (gs : List Bool) (st : Int) (w : World) (hz : zs.length = 256) (hg : gs.length = 16) (hk : k < 16) :
    Calls Try.prog 118 #[.agg (chipC zs gs st).toArray, .int .i64 k] w (GivesChip (eraseL zs gs k) gs st w) := by
  obtain ⟨X0, Y0, hb0⟩ := two_chips w zs gs st
  have hd := X0.guard hz k (by omega)
  have HP : Hid (∀ q, gs.getD k false = q → eraseL zs gs k = if q then zs else fillR zs (k * 16) (k * 16 + 16)) := Lib.hid (by intro q hq; unfold eraseL; rw [hq])
  have hki : (k : Int) < 16 := by omega
  have HP2 := Lib.hid (HP.out _ rfl)
  generalize gs.getD k false = q at hd HP2
  cases q
  · have HR : Hid (eraseL zs gs k = fillR zs (k * 16) (k * 16 + 16)) := Lib.hid (by rw [HP2.out]; rfl)
    have HL := Lib.hid (And.intro hz hg)
    have HX := Lib.hid (And.intro X0 (And.intro Y0 hb0))
    clear hz hg X0 Y0 hb0 HP HP2
    go_enter Try.func118, Try.ntmps118
    go_wp2_with (first
      | (with_reducible refine wpList_alloc_big rfl 97 rfl zC.toArray infoCx ?_))
    go_loopw [11] (fun i wr => ∃ j : Nat, j ≤ 16 ∧ i = .int .i64 j ∧ Below w.heap.size w wr ∧ Hid (BC wr w.heap.size (fillR zs (k * 16) (k * 16 + j)) gs st) ∧ Hid (BC wr (w.heap.size + 1) zZ zG 0)) (fun i _ => 16 - (intOf i).toNat)
    case atStart => exact ⟨0, by omega, rfl, HX.out.2.2, Lib.hid (by rw [Nat.add_zero, fillR_none]; exact HX.out.1), Lib.hid HX.out.2.1⟩
    case round =>
      clear HX hd
      obtain ⟨j, hj, rfl, hbw, X, Y⟩ := hrel
      by_cases hlt : j < 16
      · have hc := X.out.cell (k * 16 + j) (by rw [fillR_len]; have := HL.out; omega)
        have hf := X.out.frozen (k * 16 + j)
        generalize (fillR zs (k * 16) (k * 16 + j)).getD (k * 16 + j) 0 = z at hc
        have hX := X.out.setC (k * 16 + j) 255 (by rw [fillR_len]; have := HL.out; omega)
        rw [fillR_next _ _ _ (by omega) (by have := HL.out; omega)] at hX
        have HXn := Lib.hid hX
        have HYn := Lib.hid (Y.out.far (p := ⟨w.heap.size, k * 16 + j, none⟩) (by show w.heap.size + 1 ≠ w.heap.size; omega) (.int .u8 255))
        have hb' : Below w.heap.size w (wr.setCell ⟨w.heap.size, k * 16 + j, none⟩ (.int .u8 255)) := hbw.setCell (p := ⟨w.heap.size, k * 16 + j, none⟩) (Nat.le_refl _) _
        have hi : (j : Int) < 16 := by omega
        have hidx : (k : Int) * 16 + (j : Int) < 256 := by omega
        clear hX X Y hbw
        go_wp2
        go_roundw
        case rel => exact ⟨j + 1, by omega, by go_num, hb', HXn, HYn⟩
        case measure => simp [intOf]; omega
      · obtain rfl : j = 16 := by omega
        have HH := Lib.hid (X.out.hands Y.out (by rw [fillR_len]; exact HL.out.1) HL.out.2 zZ_len zG_len)
        rw [← HR.out] at HH
        generalize hcs : chipC (eraseL zs gs k) gs st = cs at HH
        have HCs := Lib.hid hcs
        clear hcs X Y
        go_wp2_with (first
          | (with_reducible refine wpList_load_mid rfl 97 (.tmp 2) rfl w.heap.size 0 rfl cs _ HH.out.range Try.underlying97 rfl HH.out.size ?_)
          | (with_reducible refine wpList_store_mid rfl 97 (.tmp 4) (.tmp 21) rfl (w.heap.size + 1) 0 cs.toArray rfl rfl HH.out.room HH.out.size' HH.out.one ?_))
        refine bodyPost_ret (v := .agg cs.toArray) (results_cellC Try.results118 (by rfl) HH.out.back) rfl ?_
        exact ⟨by rw [HCs.out], below_setCellsC hbw (by omega) 0 cs⟩
  · have HH := Lib.hid (X0.hands Y0 hz hg zZ_len zG_len)
    have HBl := Lib.hid hb0
    have HR : Hid (eraseL zs gs k = zs) := Lib.hid (by rw [HP2.out]; rfl)
    generalize hcs : chipC zs gs st = cs at HH HBl hd
    have HCs : Hid (chipC (eraseL zs gs k) gs st = cs) := Lib.hid (by rw [HR.out]; exact hcs)
    obtain ⟨W1, hW1⟩ : ∃ W1, W1 = (w.alloc (.cells cs.toArray 97)).alloc (.cells zC.toArray 97) := ⟨_, rfl⟩
    rw [← hW1] at HH HBl
    have HW1 := Lib.hid hW1
    clear hz hg X0 Y0 hb0 hcs hW1 HP HP2 HR
    go_enter Try.func118, Try.ntmps118
    go_wp2_with (first
      | (with_reducible refine wpList_alloc_big rfl 97 rfl zC.toArray infoCx ?_)
      | (rw [← HW1.out]; with_reducible refine wpList_load_mid rfl 97 (.tmp 2) rfl w.heap.size 0 rfl cs _ HH.out.range Try.underlying97 rfl HH.out.size ?_)
      | (with_reducible refine wpList_store_mid rfl 97 (.tmp 4) (.tmp 10) rfl (w.heap.size + 1) 0 cs.toArray rfl rfl HH.out.room HH.out.size' HH.out.one ?_))
    refine bodyPost_ret (v := .agg cs.toArray) (results_cellC Try.results118 (by rfl) HH.out.back) rfl ?_
    exact ⟨by rw [HCs.out], below_setCellsC HBl.out (by omega) 0 cs⟩
end Go.Proofs.Ytieljgoodmoacaa
