/- Reading a line, the model's. Written by gen_reads.py. -/
import Derived.Test.YtoaeofahknknhaaDoorRead
import Derived.Test.YtoaeofahknknhaaDoorWds4
import Derived.Test.YtoaeofahknknhaaDoorNumS
import Derived.Test.YtoaeofahknknhaaDoorWrd
import Derived.Test.YtoaeofahknknhaaDoorQuiet
namespace Go.Proofs.YtoaeofahknknhaaDoor
open Go.RowKit

/-- The operation found among the first k words, or -1. -/
def fndW (z : ByteArray) (k : Nat) : Int := (lookV z (vocL k)).getD (-1)
theorem lookV_app (z : ByteArray) (x : ByteArray × Int) : ∀ l : List (ByteArray × Int), lookV z (l ++ [x]) = match lookV z l with | some v => some v | none => if z = x.1 then some x.2 else none
  | [] => by simp only [List.nil_append, lookV]
  | y :: l => by
    simp only [List.cons_append, lookV]
    by_cases h : z = y.1
    · simp only [if_pos h]
    · simp only [if_neg h]; exact lookV_app z x l
theorem fndW_eq (z : ByteArray) (k : Nat) (hk : k < 22) (h : opWord k = z) : fndW z (k + 1) = k := by
  unfold fndW
  rw [vocL_step, lookV_app, ← h, vocL_new k hk]
  simp
theorem fndW_ne (z : ByteArray) (k : Nat) (h : opWord k ≠ z) : fndW z (k + 1) = fndW z k := by
  unfold fndW
  rw [vocL_step, lookV_app]
  cases lookV z (vocL k) with
  | some v => rfl
  | none => simp only [if_neg (fun e => h (Eq.symm e))]
def vsK (ws : List ByteArray) : Nat → List Int
  | 0 => []
  | l + 1 => vsK ws l ++ [numV (ws.getD (1 + l) ByteArray.empty)]
theorem btw_drewN {l r : Nat} {a w : World} (h : Btw l r a w) (q : Nat) : Btw l r a (w.drewN q) := h.trans ⟨rfl, rfl, rfl, Nat.le_refl _, fun _ _ _ => rfl⟩
theorem bl_drewN {B : Nat} {a w : World} (h : Below B a w) (q : Nat) : Below B a (w.drewN q) := h.trans ⟨rfl, rfl, rfl, Nat.le_refl _, fun _ _ => rfl⟩
theorem vsK_len (ws : List ByteArray) : ∀ l, (vsK ws l).length = l
  | 0 => rfl
  | l + 1 => by rw [vsK, List.length_append, vsK_len ws l]; rfl
theorem vsK_getD (ws : List ByteArray) (j : Nat) : ∀ l, j < l → (vsK ws l).getD j 0 = numV (ws.getD (1 + j) ByteArray.empty)
  | 0, h => absurd h (Nat.not_lt_zero _)
  | l + 1, h => by
    rw [vsK, List.getD_eq_getElem?_getD]
    rcases Nat.lt_or_eq_of_le (Nat.lt_succ_iff.1 h) with h | rfl
    · rw [List.getElem?_append_left (by rw [vsK_len]; exact h), ← List.getD_eq_getElem?_getD]; exact vsK_getD ws j l h
    · rw [List.getElem?_append_right (by rw [vsK_len]; exact Nat.le_refl _), vsK_len, Nat.sub_self]; rfl
theorem len_arg (k : Int) (h : 0 ≤ k ∧ k < 22) : 1 < lenT k ↔ 0 < argT k := by
  obtain ⟨j, rfl⟩ : ∃ j : Nat, k = j := ⟨k.toNat, by omega⟩
  have hj : j < 22 := by omega
  clear h
  revert j
  decide
theorem fndW_end (z : ByteArray) : fndW z 22 = (opOf z).getD (-1) := rfl

set_option maxHeartbeats 32000000 in
set_option maxRecDepth 100000 in
theorem readM (s : ByteArray) (w : World) (hs : s.size ≤ 1048577) : Calls Tryd.prog 69 #[.string s] w (GivesX (rdF s) w) := by
  have HR : Hid (rdF s = rdW (wordsB s)) := Lib.hid rfl
  have HSz := Lib.hid (words_size s)
  have HFW := Lib.hid (fun W => l00WordsS s W hs)
  generalize rdF s = R at HR ⊢
  generalize wordsB s = ws at HR HSz HFW
  obtain ⟨W0, hW0⟩ : ∃ W0, W0 = w.alloc (.cells #[.int .i64 0, .int .i64 0, .int .i64 0] 24) := ⟨_, rfl⟩
  have hb0 : Below w.heap.size w W0 := by rw [hW0]; exact alloc_below _ _
  have X0 : Hid (Box W0 w.heap.size 24 #[.int .i64 0, .int .i64 0, .int .i64 0]) := Lib.hid (by rw [hW0]; exact Box.new _ _ _)
  have HW0 := Lib.hid hW0
  have HB0 := Lib.hid hb0
  clear hW0 hb0
  go_enter Tryd.func69, Tryd.ntmps69
  go_wp2_with fail
  rw [← HW0.out]
  refine (HFW.out W0).mono ?_
  rintro e w1 ⟨A, n, c, rfl, hl, HO, hb⟩
  have HL := Lib.hid hl
  have HB1 := Lib.hid (bt HB0.out hb)
  have X1 := Lib.hid (X0.out.step hb)
  have HStr := Lib.hid HO.out.reads
  clear hl hb HB0 X0 HFW HO HW0
  obtain ⟨W2, hW2⟩ : ∃ W2, W2 = w1.alloc (.cells #[.int .i64 (-1), .int .i64 0, .int .i64 0] 24) := ⟨_, rfl⟩
  have hb2 : Below w1.heap.size w1 W2 := by rw [hW2]; exact alloc_below _ _
  have Y2 : Hid (Box W2 w1.heap.size 24 #[.int .i64 (-1), .int .i64 0, .int .i64 0]) := Lib.hid (by rw [hW2]; exact Box.new _ _ _)
  have HW2 := Lib.hid hW2
  have HB2 := Lib.hid hb2
  clear hW2 hb2
  go_wp2_with fail
  rw [← HW2.out]
  refine (l07WordsS W2).mono ?_
  rintro e w3 ⟨rfl, hb, HK⟩
  have HB13 := Lib.hid (bt HB2.out hb)
  have Y3 := Lib.hid (Y2.out.step hb)
  have hsz3 : w1.heap.size < w3.heap.size := Y3.out.lt
  have hszW : w1.heap.size + 1 ≤ W2.heap.size := Y2.out.lt
  have hsz1 : w.heap.size < w1.heap.size := X1.out.lt
  have HKc : Hid (∀ k, k < 22 → w3.cell? ⟨W2.heap.size, k, none⟩ = some (.string (opWord k))) := Lib.hid (fun k hk => HK.out k _ (wordCells_at k hk))
  clear hb HK Y2 HW2 HB2
  by_cases hn0 : n = 0
  · have hnp : ¬ (0 : Int) < (n : Int) := by omega
    have HF : Hid (R = ((0, 0, 0), false)) := Lib.hid (by
      have : ws = [] := List.eq_nil_of_length_eq_zero (by have := HL.out; omega)
      rw [HR.out, this]; rfl)
    clear hn0
    go_wp2
    go_loop [7] (fun i => i = .int .i64 0) (fun _ => 0)
    case atStart => rfl
    case round =>
      subst hrel
      have y0 := Y3.out.cell 0 rfl
      go_wp2
      go_quiet (fail)
      obtain ⟨W, hW⟩ : ∃ W, W = w3.drewN nq := ⟨_, rfl⟩
      rw [← hW]
      have XR : Hid (Box W w.heap.size 24 #[.int .i64 0, .int .i64 0, .int .i64 0]) := Lib.hid (by rw [hW]; have t := X1.out.below HB13.out hsz1; exact t)
      have HBw : Hid (Below w.heap.size w W) := Lib.hid (by rw [hW]; exact bl_drewN (HB1.out.trans (HB13.out.mono HB1.out.size)) _)
      clear hW y0
      have g0 := XR.out.cell 0 rfl
      have g1 := XR.out.cell 1 rfl
      have g2 := XR.out.cell 2 rfl
      have gn0 := XR.out.frozen 0
      have gn1 := XR.out.frozen 1
      have gn2 := XR.out.frozen 2
      go_wp2
      have HRes := Lib.hid (((XR.out.set 0 (.int .i64 0)).set 1 (.int .i64 0)).set 2 (.int .i64 0))
      refine bodyPost_ret (v := .tuple #[.agg #[.int .i64 0, .int .i64 0, .int .i64 0], .bool false]) (by simp [results, Tryd.results69, go_sem, HRes.out.cell 0 rfl, HRes.out.cell 1 rfl, HRes.out.cell 2 rfl]) rfl ?_
      exact ⟨by rw [HF.out], ((HBw.out.setCell (Nat.le_refl _) _).setCell (Nat.le_refl _) _).setCell (Nat.le_refl _) _⟩
  · have hnp : (0 : Int) < (n : Int) := by omega
    have hwl : 0 < ws.length := by have := HL.out; omega
    obtain ⟨b, off, hA, hc0⟩ := (HStr.out.below HB13.out) 0 hwl
    clear hc0
    subst hA
    have HHd := Lib.hid (rdO_head hwl)
    obtain ⟨z, hz⟩ : ∃ z, ws.getD 0 ByteArray.empty = z := ⟨_, rfl⟩
    rw [hz] at HHd
    have HZc : Hid (∀ W, Below w1.heap.size w1 W → W.cell? ⟨b, off, none⟩ = some (.string z)) := Lib.hid (fun W h => by
      obtain ⟨b2, off2, hA2, hcw⟩ := (HStr.out.below h) 0 hwl
      obtain ⟨rfl, rfl⟩ : b = b2 ∧ off = off2 := by injection hA2 with e; injection e with e1 e2; exact ⟨e1, e2⟩
      rw [hz, Nat.add_zero] at hcw; exact hcw)
    clear hz hwl
    go_wp2
    go_loopw [7] (fun i wr => ∃ k : Nat, k ≤ 22 ∧ i = .int .i64 k ∧ Hid (Box wr w1.heap.size 24 #[.int .i64 (fndW z k), .int .i64 0, .int .i64 0]) ∧ Hid (Btw w1.heap.size (w1.heap.size + 1) w3 wr)) (fun i _ => 22 - (intOf i).toNat)
    case atStart => exact ⟨0, by omega, rfl, Y3, Lib.hid (Btw.refl _ _ _)⟩
    case round =>
      clear Y3
      obtain ⟨k, hk, rfl, HY, HBt⟩ := hrel
      have HBr : Hid (Below w1.heap.size w1 wr) := Lib.hid (HB13.out.trans (HBt.out.below (by omega)))
      by_cases hlt : k < 22
      · have i1 : (k : Int) < 22 := by omega
        have hcz := HZc.out wr HBr.out
        have hck := HBt.out.cell (HKc.out k hlt) (.inr hszW)
        have HEq := Lib.hid (fndW_eq z k hlt)
        have HNe := Lib.hid (fndW_ne z k)
        generalize opWord k = sw at hck HEq HNe
        go_wp2
        by_cases he : sw = z
        · have HE := Lib.hid (HEq.out he)
          subst he
          go_quiet (fail)
          obtain ⟨W, hW⟩ : ∃ W, W = wr.drewN nq := ⟨_, rfl⟩
          rw [← hW]
          have YW : Hid (Box W w1.heap.size 24 #[.int .i64 (fndW sw k), .int .i64 0, .int .i64 0]) := Lib.hid (by rw [hW]; exact HY.out)
          have HBW : Hid (Btw w1.heap.size (w1.heap.size + 1) w3 W) := Lib.hid (by rw [hW]; exact btw_drewN HBt.out _)
          clear hW hcz hck
          have y0 := YW.out.cell 0 rfl
          have yn0 := YW.out.frozen 0
          go_wp2
          go_roundw
          case rel => exact ⟨k + 1, by omega, by go_num, Lib.hid (by rw [HE.out]; exact YW.out.set 0 _), Lib.hid (HBW.out.setCell (Nat.le_refl _) (Nat.lt_succ_self _) _)⟩
          case measure => simp [intOf]; omega
        · have HE := Lib.hid (HNe.out he)
          have q1 : (sw.toList == z.toList) = false := by rw [bytes_beq sw z]; simp [he]
          go_quiet (fail)
          obtain ⟨W, hW⟩ : ∃ W, W = wr.drewN nq := ⟨_, rfl⟩
          rw [← hW]
          have YW : Hid (Box W w1.heap.size 24 #[.int .i64 (fndW z k), .int .i64 0, .int .i64 0]) := Lib.hid (by rw [hW]; exact HY.out)
          have HBW : Hid (Btw w1.heap.size (w1.heap.size + 1) w3 W) := Lib.hid (by rw [hW]; exact btw_drewN HBt.out _)
          clear hW hcz hck
          go_wp2
          go_roundw
          case rel => exact ⟨k + 1, by omega, by go_num, Lib.hid (by rw [HE.out]; exact YW.out), HBW⟩
          case measure => simp [intOf]; omega
      · obtain rfl : k = 22 := by omega
        have XR : Hid (Box wr w.heap.size 24 #[.int .i64 0, .int .i64 0, .int .i64 0]) := Lib.hid (X1.out.below HBr.out hsz1)
        have HBw : Hid (Below w.heap.size w wr) := Lib.hid (HB1.out.trans (HBr.out.mono HB1.out.size))
        rw [fndW_end] at HY
        clear HBt HKc HZc hlt hk
        cases ho : opOf z with
        | none =>
          rw [ho] at HY
          have HF : Hid (R = ((0, 0, 0), false)) := Lib.hid (by rw [HR.out]; exact rdW_none (by rw [HHd.out, ho]))
          have HYn : Hid (Box wr w1.heap.size 24 #[.int .i64 (-1), .int .i64 0, .int .i64 0]) := Lib.hid HY.out
          clear ho HY
          have y0 := HYn.out.cell 0 rfl
          go_wp2
          go_quiet (fail)
          obtain ⟨W4, hW4⟩ : ∃ W, W = wr.drewN nq := ⟨_, rfl⟩
          rw [← hW4]
          have X4 : Hid (Box W4 w.heap.size 24 #[.int .i64 0, .int .i64 0, .int .i64 0]) := Lib.hid (by rw [hW4]; exact XR.out)
          have HB4 : Hid (Below w.heap.size w W4) := Lib.hid (by rw [hW4]; exact bl_drewN HBw.out _)
          clear hW4 y0 XR HBw
          have g0 := X4.out.cell 0 rfl
          have g1 := X4.out.cell 1 rfl
          have g2 := X4.out.cell 2 rfl
          have gn0 := X4.out.frozen 0
          have gn1 := X4.out.frozen 1
          have gn2 := X4.out.frozen 2
          go_wp2
          have HRes := Lib.hid (((X4.out.set 0 (.int .i64 0)).set 1 (.int .i64 0)).set 2 (.int .i64 0))
          refine bodyPost_ret (v := .tuple #[.agg #[.int .i64 0, .int .i64 0, .int .i64 0], .bool false]) (by simp [results, Tryd.results69, go_sem, HRes.out.cell 0 rfl, HRes.out.cell 1 rfl, HRes.out.cell 2 rfl]) rfl ?_
          exact ⟨by rw [HF.out], ((HB4.out.setCell (Nat.le_refl _) _).setCell (Nat.le_refl _) _).setCell (Nat.le_refl _) _⟩
        | some op =>
          rw [ho] at HY
          have HOp := Lib.hid (HHd.out.trans ho)
          obtain ⟨ho1, ho2⟩ := opOf_range ho
          clear ho HHd
          obtain ⟨k, rfl⟩ : ∃ k : Nat, op = k := ⟨op.toNat, by omega⟩
          have HYe : Hid (Box wr w1.heap.size 24 #[.int .i64 k, .int .i64 0, .int .i64 0]) := Lib.hid HY.out
          clear HY
          have j0 : ¬ (k : Int) < 0 := by omega
          have y0 := HYe.out.cell 0 rfl
          have HRg := Lib.hid (l07RegA (k : Int))
          have HLn := Lib.hid (l07LengthA (k : Int))
          go_wp2
          by_cases h5 : 5 ≤ (k : Int) ∧ (k : Int) ≤ 14
          · have r5 : 0 < regT k := by unfold regT; rw [if_pos h5]; decide
            rw [rngB_t h5] at HRg
            clear h5
            have pb1 : bitI true = 1 := rfl
            have pb0 : bitI false = 0 := rfl
            have wr1 : IntKind.i64.wrap 1 = 1 := by decide
            have wr2 : IntKind.i64.wrap 2 = 2 := by decide
            have wr3 : IntKind.i64.wrap 3 = 3 := by decide
            by_cases h6 : 1 < lenT k
            · have r6 := (len_arg (k : Int) (by omega)).1 h6
              generalize lenT (k : Int) = ln at HLn h6
              have HC : Hid (cntN (k : Int) = 2) := Lib.hid (by unfold cntN; rw [if_pos r5, if_pos r6])
              by_cases hcnt : n = 3
              · subst hcnt
                have HI : Hid (insR k ws = numV (ws.getD 1 ByteArray.empty)) := Lib.hid (by unfold insR; rw [if_pos r5])
                have HJ : Hid (insA k ws = numV (ws.getD 2 ByteArray.empty)) := Lib.hid (by unfold insA; rw [if_pos r6, HC.out])
                clear r5 r6
                go_quiet ((first | (go_at_call 66; exact quietSame (HRg.out _)) | (go_at_call 67; exact quietSame (HLn.out _)) | (go_at_call 65; exact quietSame (l01BitA _ _))))
                obtain ⟨W4, hW4⟩ : ∃ W, W = wr.drewN nq := ⟨_, rfl⟩
                rw [← hW4]
                have X4 : Hid (Box W4 w.heap.size 24 #[.int .i64 0, .int .i64 0, .int .i64 0]) := Lib.hid (by rw [hW4]; exact XR.out)
                have Y4 : Hid (Box W4 w1.heap.size 24 #[.int .i64 k, .int .i64 0, .int .i64 0]) := Lib.hid (by rw [hW4]; exact HYe.out)
                have HB4 : Hid (Below w.heap.size w W4) := Lib.hid (by rw [hW4]; exact bl_drewN HBw.out _)
                have HB14 : Hid (Below w1.heap.size w1 W4) := Lib.hid (by rw [hW4]; exact bl_drewN HBr.out _)
                have hsz4 : w1.heap.size < W4.heap.size := Y4.out.lt
                clear hW4 y0 XR HYe HBw HBr
                obtain ⟨W5, hW5⟩ : ∃ W, W = W4.alloc (.cells #[] 3) := ⟨_, rfl⟩
                have hb5 : Below W4.heap.size W4 W5 := by rw [hW5]; exact alloc_below _ _
                have E5 : Hid (Box W5 W4.heap.size 3 #[]) := Lib.hid (by rw [hW5]; exact Box.new _ _ _)
                have HB5 := Lib.hid hb5
                have HW5 := Lib.hid hW5
                clear hW5 hb5
                go_wp2
                rw [← HW5.out]
                go_loopw [8, 9] (fun v i wr => ∃ (l : Nat) (A' : Option Addr) (c' : Nat), l ≤ 2 ∧ v = .slice A' l c' ∧ i = .int .i64 ((1 + l : Nat) : Int) ∧ Hid (∀ j, j < l → natW (ws.getD (1 + j) ByteArray.empty) = true) ∧ Hid (GroI wr W4.heap.size (.slice A' l c') (vsK ws l)) ∧ Hid (Below W4.heap.size W4 wr)) (fun _ i _ => 1 + 2 - (intOf i).toNat)
                case atStart => exact ⟨0, _, 0, by omega, rfl, rfl, Lib.hid (fun j hj => by omega), Lib.hid (rowv_empty (Nat.le_refl _) E5.out), HB5⟩
                case round =>
                  clear E5 HB5 HW5
                  obtain ⟨l, A', c', hlc, rfl, rfl, HAll, HG, HBt⟩ := hrel
                  have hsr : W4.heap.size ≤ wr.heap.size := HBt.out.size
                  have XR : Hid (Box wr w.heap.size 24 #[.int .i64 0, .int .i64 0, .int .i64 0]) := Lib.hid (X4.out.below HBt.out (by omega))
                  have YR : Hid (Box wr w1.heap.size 24 #[.int .i64 k, .int .i64 0, .int .i64 0]) := Lib.hid (Y4.out.below HBt.out (by omega))
                  have HBw : Hid (Below w.heap.size w wr) := Lib.hid (HB4.out.trans (HBt.out.mono HB4.out.size))
                  have HB1r : Hid (Below w1.heap.size w1 wr) := Lib.hid (HB14.out.trans (HBt.out.mono HB14.out.size))
                  by_cases hlt : l < 2
                  · have i1 : ((1 + l : Nat) : Int) < 3 := by omega
                    obtain ⟨b2, off2, hA2, hcw⟩ := (HStr.out.below HB1r.out) (1 + l) (by rw [HL.out]; omega)
                    obtain ⟨rfl, rfl⟩ : b = b2 ∧ off = off2 := by injection hA2 with e; injection e with e1 e2; exact ⟨e1, e2⟩
                    have hmem : ws.getD (1 + l) ByteArray.empty ∈ ws := by
                      rw [List.getD_eq_getElem?_getD, List.getElem?_eq_getElem (by rw [HL.out]; omega), Option.getD_some]
                      exact List.getElem_mem _
                    have HV : Hid (vsK ws (l + 1) = vsK ws l ++ [numV (ws.getD (1 + l) ByteArray.empty)]) := Lib.hid rfl
                    have hxs := HSz.out _ hmem
                    have HNa := Lib.hid (fun h (hi : 1 + l < ws.length) => not_all (ws := ws) (i := l) h hi)
                    have HAl : Hid (natW (ws.getD (1 + l) ByteArray.empty) = true → ∀ j, j < l + 1 → natW (ws.getD (1 + j) ByteArray.empty) = true) := Lib.hid (fun hx j hj => by
                      rcases Nat.lt_or_eq_of_le (Nat.lt_succ_iff.1 hj) with h | rfl
                      · exact HAll.out j h
                      · exact hx)
                    have HRw : Hid (wr.ownsRow W4.heap.size 3 1 (.slice A' l c') l ((vsK ws l).map (Value.int .i64))) := Lib.hid (by have := HG.out; unfold GroI at this; rwa [vsK_len] at this)
                    generalize ws.getD (1 + l) ByteArray.empty = x at hcw hxs HV HNa HAl
                    clear hmem hA2 HG
                    have HNu := Lib.hid (fun W => l07NumberS x W (by omega))
                    cases hb : natL x.data.toList with
                    | false =>
                      have HF : Hid (R = ((0, 0, 0), false)) := Lib.hid (by
                        rw [HR.out]
                        exact rdW_no HOp.out (fun h => HNa.out (show natL x.data.toList = false from hb) (by rw [HL.out]; omega) h.2.1))
                      have HNu2 : Hid (∀ W, Calls Tryd.prog 85 #[.string x] W fun e w' => ∃ n : Int, e = .returned (.tuple #[.int .i64 n, .bool false]) ∧ Below W.heap.size W w') := Lib.hid (fun W => (HNu.out W).mono fun e w' ⟨n, h1, _, h3⟩ => ⟨n, by rw [h1, hb], h3⟩)
                      clear hb HNu HNa HAl HV
                      go_wp2_with fail
                      refine (HNu2.out _).mono ?_
                      rintro e w6 ⟨nu, rfl, hb⟩
                      have HB6 := Lib.hid (bt HBw.out hb)
                      have X6 := Lib.hid (XR.out.step hb)
                      clear hb XR HBw
                      have g0 := X6.out.cell 0 rfl
                      have g1 := X6.out.cell 1 rfl
                      have g2 := X6.out.cell 2 rfl
                      have gn0 := X6.out.frozen 0
                      have gn1 := X6.out.frozen 1
                      have gn2 := X6.out.frozen 2
                      go_wp2
                      have HRes := Lib.hid (((X6.out.set 0 (.int .i64 0)).set 1 (.int .i64 0)).set 2 (.int .i64 0))
                      refine bodyPost_ret (v := .tuple #[.agg #[.int .i64 0, .int .i64 0, .int .i64 0], .bool false]) (by simp [results, Tryd.results69, go_sem, HRes.out.cell 0 rfl, HRes.out.cell 1 rfl, HRes.out.cell 2 rfl]) rfl ?_
                      exact ⟨by rw [HF.out], ((HB6.out.setCell (Nat.le_refl _) _).setCell (Nat.le_refl _) _).setCell (Nat.le_refl _) _⟩
                    | true =>
                      have HNu2 : Hid (∀ W, Calls Tryd.prog 85 #[.string x] W fun e w' => e = .returned (.tuple #[.int .i64 (numV x), .bool true]) ∧ Below W.heap.size W w') := Lib.hid (fun W => (HNu.out W).mono fun e w' ⟨n, h1, h2, h3⟩ => ⟨by rw [h1, hb, h2 hb]; unfold numV natV; rw [if_pos hb], h3⟩)
                      have HAl2 := Lib.hid (HAl.out hb)
                      clear hb HNu HNa HAl
                      generalize numV x = nu at HNu2 HV
                      go_wp2_with fail
                      refine (HNu2.out _).mono ?_
                      rintro e w6 ⟨rfl, hb⟩
                      have HB6 := Lib.hid (bt HBt.out hb)
                      have HRw6 := Lib.hid (rowv_below HRw.out hb)
                      have hs6 : W4.heap.size ≤ w6.heap.size := HB6.out.size
                      clear hb
                      have HBa : Hid (Below w6.heap.size w6 (w6.alloc (.cells #[.int .i64 nu] 3))) := Lib.hid (alloc_below _ _)
                      have HOw := Lib.hid (rowv_below HRw6.out HBa.out)
                      have HNw : Hid (∀ i u, [Value.int .i64 nu][i]? = some u → (w6.alloc (.cells #[.int .i64 nu] 3)).cell? ⟨w6.heap.size, i, none⟩ = some u) := Lib.hid (fun i u hi => by
                        match i, hi with
                        | 0, hi => simp at hi; subst hi; exact (Box.new w6 3 #[.int .i64 nu]).cell 0 rfl)
                      go_wp2_with (at_builtin; refine wpList_app_one rfl (.tmp 75) (.tmp 77) 26 3 rfl (.int .i64 0) 1 8 elemInt Tryd.underlying26 W4.heap.size (.slice A' l c') l ((vsK ws l).map (Value.int .i64)) rfl ?_ w6.heap.size 1 rfl [.int .i64 nu] rfl ?_ ?_ ?_ ?_ ?_ ?_)
                      any_goals first | rfl | exact HOw.out | exact HNw.out | (intro u hu; simp at hu; subst hu; rfl) | (unfold maxLen; omega) | omega | (simp; done) | (simp; omega)
                      intro A2 c2 w7 hR2 hc2 hg2 hb2
                      have HR2 := Lib.hid hR2
                      have HB7 := Lib.hid ((bt HB6.out HBa.out).trans (hb2.mono (Nat.le_refl _)))
                      clear hR2 hb2 hg2
                      go_wp2
                      go_roundw
                      case rel =>
                        refine ⟨l + 1, A2, c2, by omega, rfl, by go_num, HAl2, Lib.hid ?_, HB7⟩
                        unfold GroI; rw [vsK_len, HV.out, List.map_append]; exact HR2.out
                      case measure => simp [intOf]; omega
                  · obtain rfl : l = 2 := by omega
                    obtain h0 | ⟨ab, mm, ff, hA3, hlo, _⟩ := HG.out.own (Nat.le_refl _)
                    · exact absurd (congrArg List.length h0) (by rw [vsK_len]; decide)
                    obtain ⟨ab1, aoff, hA5, hcA⟩ := (HG.out.own (Nat.le_refl _)).reads 0 (by rw [vsK_len]; omega)
                    subst hA3
                    obtain ⟨rfl, rfl⟩ : ab = ab1 ∧ 0 = aoff := by injection hA5 with e; injection e with e1 e2; exact ⟨e1, e2⟩
                    clear hA5
                    rw [vsK_getD ws 0 2 (by omega), Nat.add_zero, Nat.add_zero] at hcA
                    obtain ⟨ab2, aoff2, hA4, hcA2⟩ := (HG.out.own (Nat.le_refl _)).reads 1 (by rw [vsK_len]; omega)
                    obtain ⟨rfl, rfl⟩ : ab = ab2 ∧ 0 = aoff2 := by injection hA4 with e; injection e with e1 e2; exact ⟨e1, e2⟩
                    rw [vsK_getD ws 1 2 (by omega), Nat.zero_add] at hcA2
                    clear hA4
                    have hcA3 := ((Btw.refl w1.heap.size (w1.heap.size + 1) wr).setCell (Nat.le_refl _) (Nat.lt_succ_self _) (p := ⟨w1.heap.size, 1, none⟩) (Value.int .i64 (numV (ws.getD 1 ByteArray.empty)))).cell hcA2 (.inr (by show w1.heap.size + 1 ≤ ab; omega))
                    clear hcA2
                    have HC2 := Lib.hid (And.intro (show ws.length = 1 + cntN (k : Int) by rw [HL.out, HC.out]) (all_upto HAll.out (by rw [HL.out])))
                    have HYes := Lib.hid (fun h => rdW_yes HOp.out ⟨HC2.out.1, HC2.out.2, h⟩)
                    have HNo := Lib.hid (fun (h : okIns k (insR k ws) (insA k ws) = false) => rdW_no (ws := ws) HOp.out (fun q => absurd q.2.2 (by rw [h]; decide)))
                    rw [HI.out, HJ.out] at HYes HNo
                    clear HI HJ
                    generalize numV (ws.getD 1 ByteArray.empty) = ir at hcA hcA3 HYes HNo
                    generalize numV (ws.getD 2 ByteArray.empty) = ia at hcA3 HYes HNo
                    have HVal := Lib.hid (fun W => specInstrOK (k : Int) ir ia W)
                    have HZ : Hid (Box ((wr.setCell ⟨w1.heap.size, 1, none⟩ (.int .i64 ir)).setCell ⟨w1.heap.size, 2, none⟩ (.int .i64 ia)) w1.heap.size 24 #[.int .i64 k, .int .i64 ir, .int .i64 ia]) := Lib.hid ((YR.out.set 1 _).set 2 _)
                    have XZ : Hid (Box ((wr.setCell ⟨w1.heap.size, 1, none⟩ (.int .i64 ir)).setCell ⟨w1.heap.size, 2, none⟩ (.int .i64 ia)) w.heap.size 24 #[.int .i64 0, .int .i64 0, .int .i64 0]) := Lib.hid (XR.out.btw (((Btw.refl w1.heap.size (w1.heap.size + 1) wr).setCell (Nat.le_refl _) (Nat.lt_succ_self _) _).setCell (Nat.le_refl _) (Nat.lt_succ_self _) _) (.inl hsz1))
                    have HBZ : Hid (Below w.heap.size w ((wr.setCell ⟨w1.heap.size, 1, none⟩ (.int .i64 ir)).setCell ⟨w1.heap.size, 2, none⟩ (.int .i64 ia))) := Lib.hid ((HBw.out.setCell (Nat.le_of_lt hsz1) _).setCell (Nat.le_of_lt hsz1) _)
                    have y0 := YR.out.cell 0 rfl
                    have y1 := YR.out.cell 1 rfl
                    have y2 := YR.out.cell 2 rfl
                    have yn1 := YR.out.frozen 1
                    have yn2 := YR.out.frozen 2
                    cases hok : okIns (k : Int) ir ia with
                    | false =>
                      rw [hok] at HVal
                      have HF : Hid (R = ((0, 0, 0), false)) := Lib.hid (by rw [HR.out]; exact HNo.out hok)
                      clear hok HYes HNo
                      go_wp2_with (first | (go_at_call 66; refine (HRg.out _).mono ?_; rintro e w' ⟨rfl, rfl⟩) | (go_at_call 67; refine (HLn.out _).mono ?_; rintro e w' ⟨rfl, rfl⟩))
                      refine (HVal.out _).mono ?_
                      rintro e w8 ⟨rfl, hb⟩
                      have HB8 := Lib.hid (bt HBZ.out hb)
                      have X8 := Lib.hid (XZ.out.step hb)
                      clear hb y0 y1 y2 yn1 yn2 XZ HBZ HZ
                      have g0 := X8.out.cell 0 rfl
                      have g1 := X8.out.cell 1 rfl
                      have g2 := X8.out.cell 2 rfl
                      have gn0 := X8.out.frozen 0
                      have gn1 := X8.out.frozen 1
                      have gn2 := X8.out.frozen 2
                      go_wp2
                      have HRes := Lib.hid (((X8.out.set 0 (.int .i64 0)).set 1 (.int .i64 0)).set 2 (.int .i64 0))
                      refine bodyPost_ret (v := .tuple #[.agg #[.int .i64 0, .int .i64 0, .int .i64 0], .bool false]) (by simp [results, Tryd.results69, go_sem, HRes.out.cell 0 rfl, HRes.out.cell 1 rfl, HRes.out.cell 2 rfl]) rfl ?_
                      exact ⟨by rw [HF.out], ((HB8.out.setCell (Nat.le_refl _) _).setCell (Nat.le_refl _) _).setCell (Nat.le_refl _) _⟩
                    | true =>
                      rw [hok] at HVal
                      have HF : Hid (R = (((k : Int), ir, ia), true)) := Lib.hid (by rw [HR.out]; exact HYes.out hok)
                      clear hok HYes HNo
                      go_wp2_with (first | (go_at_call 66; refine (HRg.out _).mono ?_; rintro e w' ⟨rfl, rfl⟩) | (go_at_call 67; refine (HLn.out _).mono ?_; rintro e w' ⟨rfl, rfl⟩))
                      refine (HVal.out _).mono ?_
                      rintro e w8 ⟨rfl, hb⟩
                      have HB8 := Lib.hid (bt HBZ.out hb)
                      have X8 := Lib.hid (XZ.out.step hb)
                      have Z8 := Lib.hid (HZ.out.step hb)
                      clear hb y0 y1 y2 yn1 yn2 XZ HBZ HZ
                      have y0 := Z8.out.cell 0 rfl
                      have y1 := Z8.out.cell 1 rfl
                      have y2 := Z8.out.cell 2 rfl
                      have g0 := X8.out.cell 0 rfl
                      have g1 := X8.out.cell 1 rfl
                      have g2 := X8.out.cell 2 rfl
                      have gn0 := X8.out.frozen 0
                      have gn1 := X8.out.frozen 1
                      have gn2 := X8.out.frozen 2
                      go_wp2
                      have HRes := Lib.hid (((X8.out.set 0 (.int .i64 k)).set 1 (.int .i64 ir)).set 2 (.int .i64 ia))
                      refine bodyPost_ret (v := .tuple #[.agg #[.int .i64 k, .int .i64 ir, .int .i64 ia], .bool true]) (by simp [results, Tryd.results69, go_sem, HRes.out.cell 0 rfl, HRes.out.cell 1 rfl, HRes.out.cell 2 rfl]) rfl ?_
                      exact ⟨by rw [HF.out], ((HB8.out.setCell (Nat.le_refl _) _).setCell (Nat.le_refl _) _).setCell (Nat.le_refl _) _⟩
              · have q1 : ((n : Int) != 3) = true := by rw [bne_iff_ne]; omega
                have HF : Hid (R = ((0, 0, 0), false)) := Lib.hid (by
                  rw [HR.out]
                  exact rdW_no HOp.out (fun h => hcnt (by have h1 := h.1; have h2 := HL.out; have h3 := HC.out; omega)))
                clear hcnt
                go_quiet ((first | (go_at_call 66; exact quietSame (HRg.out _)) | (go_at_call 67; exact quietSame (HLn.out _)) | (go_at_call 65; exact quietSame (l01BitA _ _))))
                obtain ⟨W4, hW4⟩ : ∃ W, W = wr.drewN nq := ⟨_, rfl⟩
                rw [← hW4]
                have X4 : Hid (Box W4 w.heap.size 24 #[.int .i64 0, .int .i64 0, .int .i64 0]) := Lib.hid (by rw [hW4]; exact XR.out)
                have HB4 : Hid (Below w.heap.size w W4) := Lib.hid (by rw [hW4]; exact bl_drewN HBw.out _)
                clear hW4 y0 XR HBw
                have g0 := X4.out.cell 0 rfl
                have g1 := X4.out.cell 1 rfl
                have g2 := X4.out.cell 2 rfl
                have gn0 := X4.out.frozen 0
                have gn1 := X4.out.frozen 1
                have gn2 := X4.out.frozen 2
                go_wp2
                have HRes := Lib.hid (((X4.out.set 0 (.int .i64 0)).set 1 (.int .i64 0)).set 2 (.int .i64 0))
                refine bodyPost_ret (v := .tuple #[.agg #[.int .i64 0, .int .i64 0, .int .i64 0], .bool false]) (by simp [results, Tryd.results69, go_sem, HRes.out.cell 0 rfl, HRes.out.cell 1 rfl, HRes.out.cell 2 rfl]) rfl ?_
                exact ⟨by rw [HF.out], ((HB4.out.setCell (Nat.le_refl _) _).setCell (Nat.le_refl _) _).setCell (Nat.le_refl _) _⟩
            · have r6 := fun h => h6 ((len_arg (k : Int) (by omega)).2 h)
              generalize lenT (k : Int) = ln at HLn h6
              have HC : Hid (cntN (k : Int) = 1) := Lib.hid (by unfold cntN; rw [if_pos r5, if_neg r6])
              by_cases hcnt : n = 2
              · subst hcnt
                have HI : Hid (insR k ws = numV (ws.getD 1 ByteArray.empty)) := Lib.hid (by unfold insR; rw [if_pos r5])
                have HJ : Hid (insA k ws = 0) := Lib.hid (by unfold insA; rw [if_neg r6])
                clear r5 r6
                go_quiet ((first | (go_at_call 66; exact quietSame (HRg.out _)) | (go_at_call 67; exact quietSame (HLn.out _)) | (go_at_call 65; exact quietSame (l01BitA _ _))))
                obtain ⟨W4, hW4⟩ : ∃ W, W = wr.drewN nq := ⟨_, rfl⟩
                rw [← hW4]
                have X4 : Hid (Box W4 w.heap.size 24 #[.int .i64 0, .int .i64 0, .int .i64 0]) := Lib.hid (by rw [hW4]; exact XR.out)
                have Y4 : Hid (Box W4 w1.heap.size 24 #[.int .i64 k, .int .i64 0, .int .i64 0]) := Lib.hid (by rw [hW4]; exact HYe.out)
                have HB4 : Hid (Below w.heap.size w W4) := Lib.hid (by rw [hW4]; exact bl_drewN HBw.out _)
                have HB14 : Hid (Below w1.heap.size w1 W4) := Lib.hid (by rw [hW4]; exact bl_drewN HBr.out _)
                have hsz4 : w1.heap.size < W4.heap.size := Y4.out.lt
                clear hW4 y0 XR HYe HBw HBr
                obtain ⟨W5, hW5⟩ : ∃ W, W = W4.alloc (.cells #[] 3) := ⟨_, rfl⟩
                have hb5 : Below W4.heap.size W4 W5 := by rw [hW5]; exact alloc_below _ _
                have E5 : Hid (Box W5 W4.heap.size 3 #[]) := Lib.hid (by rw [hW5]; exact Box.new _ _ _)
                have HB5 := Lib.hid hb5
                have HW5 := Lib.hid hW5
                clear hW5 hb5
                go_wp2
                rw [← HW5.out]
                go_loopw [8, 9] (fun v i wr => ∃ (l : Nat) (A' : Option Addr) (c' : Nat), l ≤ 1 ∧ v = .slice A' l c' ∧ i = .int .i64 ((1 + l : Nat) : Int) ∧ Hid (∀ j, j < l → natW (ws.getD (1 + j) ByteArray.empty) = true) ∧ Hid (GroI wr W4.heap.size (.slice A' l c') (vsK ws l)) ∧ Hid (Below W4.heap.size W4 wr)) (fun _ i _ => 1 + 1 - (intOf i).toNat)
                case atStart => exact ⟨0, _, 0, by omega, rfl, rfl, Lib.hid (fun j hj => by omega), Lib.hid (rowv_empty (Nat.le_refl _) E5.out), HB5⟩
                case round =>
                  clear E5 HB5 HW5
                  obtain ⟨l, A', c', hlc, rfl, rfl, HAll, HG, HBt⟩ := hrel
                  have hsr : W4.heap.size ≤ wr.heap.size := HBt.out.size
                  have XR : Hid (Box wr w.heap.size 24 #[.int .i64 0, .int .i64 0, .int .i64 0]) := Lib.hid (X4.out.below HBt.out (by omega))
                  have YR : Hid (Box wr w1.heap.size 24 #[.int .i64 k, .int .i64 0, .int .i64 0]) := Lib.hid (Y4.out.below HBt.out (by omega))
                  have HBw : Hid (Below w.heap.size w wr) := Lib.hid (HB4.out.trans (HBt.out.mono HB4.out.size))
                  have HB1r : Hid (Below w1.heap.size w1 wr) := Lib.hid (HB14.out.trans (HBt.out.mono HB14.out.size))
                  by_cases hlt : l < 1
                  · have i1 : ((1 + l : Nat) : Int) < 2 := by omega
                    obtain ⟨b2, off2, hA2, hcw⟩ := (HStr.out.below HB1r.out) (1 + l) (by rw [HL.out]; omega)
                    obtain ⟨rfl, rfl⟩ : b = b2 ∧ off = off2 := by injection hA2 with e; injection e with e1 e2; exact ⟨e1, e2⟩
                    have hmem : ws.getD (1 + l) ByteArray.empty ∈ ws := by
                      rw [List.getD_eq_getElem?_getD, List.getElem?_eq_getElem (by rw [HL.out]; omega), Option.getD_some]
                      exact List.getElem_mem _
                    have HV : Hid (vsK ws (l + 1) = vsK ws l ++ [numV (ws.getD (1 + l) ByteArray.empty)]) := Lib.hid rfl
                    have hxs := HSz.out _ hmem
                    have HNa := Lib.hid (fun h (hi : 1 + l < ws.length) => not_all (ws := ws) (i := l) h hi)
                    have HAl : Hid (natW (ws.getD (1 + l) ByteArray.empty) = true → ∀ j, j < l + 1 → natW (ws.getD (1 + j) ByteArray.empty) = true) := Lib.hid (fun hx j hj => by
                      rcases Nat.lt_or_eq_of_le (Nat.lt_succ_iff.1 hj) with h | rfl
                      · exact HAll.out j h
                      · exact hx)
                    have HRw : Hid (wr.ownsRow W4.heap.size 3 1 (.slice A' l c') l ((vsK ws l).map (Value.int .i64))) := Lib.hid (by have := HG.out; unfold GroI at this; rwa [vsK_len] at this)
                    generalize ws.getD (1 + l) ByteArray.empty = x at hcw hxs HV HNa HAl
                    clear hmem hA2 HG
                    have HNu := Lib.hid (fun W => l07NumberS x W (by omega))
                    cases hb : natL x.data.toList with
                    | false =>
                      have HF : Hid (R = ((0, 0, 0), false)) := Lib.hid (by
                        rw [HR.out]
                        exact rdW_no HOp.out (fun h => HNa.out (show natL x.data.toList = false from hb) (by rw [HL.out]; omega) h.2.1))
                      have HNu2 : Hid (∀ W, Calls Tryd.prog 85 #[.string x] W fun e w' => ∃ n : Int, e = .returned (.tuple #[.int .i64 n, .bool false]) ∧ Below W.heap.size W w') := Lib.hid (fun W => (HNu.out W).mono fun e w' ⟨n, h1, _, h3⟩ => ⟨n, by rw [h1, hb], h3⟩)
                      clear hb HNu HNa HAl HV
                      go_wp2_with fail
                      refine (HNu2.out _).mono ?_
                      rintro e w6 ⟨nu, rfl, hb⟩
                      have HB6 := Lib.hid (bt HBw.out hb)
                      have X6 := Lib.hid (XR.out.step hb)
                      clear hb XR HBw
                      have g0 := X6.out.cell 0 rfl
                      have g1 := X6.out.cell 1 rfl
                      have g2 := X6.out.cell 2 rfl
                      have gn0 := X6.out.frozen 0
                      have gn1 := X6.out.frozen 1
                      have gn2 := X6.out.frozen 2
                      go_wp2
                      have HRes := Lib.hid (((X6.out.set 0 (.int .i64 0)).set 1 (.int .i64 0)).set 2 (.int .i64 0))
                      refine bodyPost_ret (v := .tuple #[.agg #[.int .i64 0, .int .i64 0, .int .i64 0], .bool false]) (by simp [results, Tryd.results69, go_sem, HRes.out.cell 0 rfl, HRes.out.cell 1 rfl, HRes.out.cell 2 rfl]) rfl ?_
                      exact ⟨by rw [HF.out], ((HB6.out.setCell (Nat.le_refl _) _).setCell (Nat.le_refl _) _).setCell (Nat.le_refl _) _⟩
                    | true =>
                      have HNu2 : Hid (∀ W, Calls Tryd.prog 85 #[.string x] W fun e w' => e = .returned (.tuple #[.int .i64 (numV x), .bool true]) ∧ Below W.heap.size W w') := Lib.hid (fun W => (HNu.out W).mono fun e w' ⟨n, h1, h2, h3⟩ => ⟨by rw [h1, hb, h2 hb]; unfold numV natV; rw [if_pos hb], h3⟩)
                      have HAl2 := Lib.hid (HAl.out hb)
                      clear hb HNu HNa HAl
                      generalize numV x = nu at HNu2 HV
                      go_wp2_with fail
                      refine (HNu2.out _).mono ?_
                      rintro e w6 ⟨rfl, hb⟩
                      have HB6 := Lib.hid (bt HBt.out hb)
                      have HRw6 := Lib.hid (rowv_below HRw.out hb)
                      have hs6 : W4.heap.size ≤ w6.heap.size := HB6.out.size
                      clear hb
                      have HBa : Hid (Below w6.heap.size w6 (w6.alloc (.cells #[.int .i64 nu] 3))) := Lib.hid (alloc_below _ _)
                      have HOw := Lib.hid (rowv_below HRw6.out HBa.out)
                      have HNw : Hid (∀ i u, [Value.int .i64 nu][i]? = some u → (w6.alloc (.cells #[.int .i64 nu] 3)).cell? ⟨w6.heap.size, i, none⟩ = some u) := Lib.hid (fun i u hi => by
                        match i, hi with
                        | 0, hi => simp at hi; subst hi; exact (Box.new w6 3 #[.int .i64 nu]).cell 0 rfl)
                      go_wp2_with (at_builtin; refine wpList_app_one rfl (.tmp 75) (.tmp 77) 26 3 rfl (.int .i64 0) 1 8 elemInt Tryd.underlying26 W4.heap.size (.slice A' l c') l ((vsK ws l).map (Value.int .i64)) rfl ?_ w6.heap.size 1 rfl [.int .i64 nu] rfl ?_ ?_ ?_ ?_ ?_ ?_)
                      any_goals first | rfl | exact HOw.out | exact HNw.out | (intro u hu; simp at hu; subst hu; rfl) | (unfold maxLen; omega) | omega | (simp; done) | (simp; omega)
                      intro A2 c2 w7 hR2 hc2 hg2 hb2
                      have HR2 := Lib.hid hR2
                      have HB7 := Lib.hid ((bt HB6.out HBa.out).trans (hb2.mono (Nat.le_refl _)))
                      clear hR2 hb2 hg2
                      go_wp2
                      go_roundw
                      case rel =>
                        refine ⟨l + 1, A2, c2, by omega, rfl, by go_num, HAl2, Lib.hid ?_, HB7⟩
                        unfold GroI; rw [vsK_len, HV.out, List.map_append]; exact HR2.out
                      case measure => simp [intOf]; omega
                  · obtain rfl : l = 1 := by omega
                    obtain h0 | ⟨ab, mm, ff, hA3, hlo, _⟩ := HG.out.own (Nat.le_refl _)
                    · exact absurd (congrArg List.length h0) (by rw [vsK_len]; decide)
                    obtain ⟨ab1, aoff, hA5, hcA⟩ := (HG.out.own (Nat.le_refl _)).reads 0 (by rw [vsK_len]; omega)
                    subst hA3
                    obtain ⟨rfl, rfl⟩ : ab = ab1 ∧ 0 = aoff := by injection hA5 with e; injection e with e1 e2; exact ⟨e1, e2⟩
                    clear hA5
                    rw [vsK_getD ws 0 1 (by omega), Nat.add_zero, Nat.add_zero] at hcA
                    have HC2 := Lib.hid (And.intro (show ws.length = 1 + cntN (k : Int) by rw [HL.out, HC.out]) (all_upto HAll.out (by rw [HL.out])))
                    have HYes := Lib.hid (fun h => rdW_yes HOp.out ⟨HC2.out.1, HC2.out.2, h⟩)
                    have HNo := Lib.hid (fun (h : okIns k (insR k ws) (insA k ws) = false) => rdW_no (ws := ws) HOp.out (fun q => absurd q.2.2 (by rw [h]; decide)))
                    rw [HI.out, HJ.out] at HYes HNo
                    clear HI HJ
                    generalize numV (ws.getD 1 ByteArray.empty) = ir at hcA HYes HNo
                    have HVal := Lib.hid (fun W => specInstrOK (k : Int) ir 0 W)
                    have HZ : Hid (Box (wr.setCell ⟨w1.heap.size, 1, none⟩ (.int .i64 ir)) w1.heap.size 24 #[.int .i64 k, .int .i64 ir, .int .i64 0]) := Lib.hid (YR.out.set 1 _)
                    have XZ : Hid (Box (wr.setCell ⟨w1.heap.size, 1, none⟩ (.int .i64 ir)) w.heap.size 24 #[.int .i64 0, .int .i64 0, .int .i64 0]) := Lib.hid (XR.out.btw ((Btw.refl w1.heap.size (w1.heap.size + 1) wr).setCell (Nat.le_refl _) (Nat.lt_succ_self _) _) (.inl hsz1))
                    have HBZ : Hid (Below w.heap.size w (wr.setCell ⟨w1.heap.size, 1, none⟩ (.int .i64 ir))) := Lib.hid (HBw.out.setCell (Nat.le_of_lt hsz1) _)
                    have y0 := YR.out.cell 0 rfl
                    have y1 := YR.out.cell 1 rfl
                    have y2 := YR.out.cell 2 rfl
                    have yn1 := YR.out.frozen 1
                    have yn2 := YR.out.frozen 2
                    cases hok : okIns (k : Int) ir 0 with
                    | false =>
                      rw [hok] at HVal
                      have HF : Hid (R = ((0, 0, 0), false)) := Lib.hid (by rw [HR.out]; exact HNo.out hok)
                      clear hok HYes HNo
                      go_wp2_with (first | (go_at_call 66; refine (HRg.out _).mono ?_; rintro e w' ⟨rfl, rfl⟩) | (go_at_call 67; refine (HLn.out _).mono ?_; rintro e w' ⟨rfl, rfl⟩))
                      refine (HVal.out _).mono ?_
                      rintro e w8 ⟨rfl, hb⟩
                      have HB8 := Lib.hid (bt HBZ.out hb)
                      have X8 := Lib.hid (XZ.out.step hb)
                      clear hb y0 y1 y2 yn1 yn2 XZ HBZ HZ
                      have g0 := X8.out.cell 0 rfl
                      have g1 := X8.out.cell 1 rfl
                      have g2 := X8.out.cell 2 rfl
                      have gn0 := X8.out.frozen 0
                      have gn1 := X8.out.frozen 1
                      have gn2 := X8.out.frozen 2
                      go_wp2
                      have HRes := Lib.hid (((X8.out.set 0 (.int .i64 0)).set 1 (.int .i64 0)).set 2 (.int .i64 0))
                      refine bodyPost_ret (v := .tuple #[.agg #[.int .i64 0, .int .i64 0, .int .i64 0], .bool false]) (by simp [results, Tryd.results69, go_sem, HRes.out.cell 0 rfl, HRes.out.cell 1 rfl, HRes.out.cell 2 rfl]) rfl ?_
                      exact ⟨by rw [HF.out], ((HB8.out.setCell (Nat.le_refl _) _).setCell (Nat.le_refl _) _).setCell (Nat.le_refl _) _⟩
                    | true =>
                      rw [hok] at HVal
                      have HF : Hid (R = (((k : Int), ir, 0), true)) := Lib.hid (by rw [HR.out]; exact HYes.out hok)
                      clear hok HYes HNo
                      go_wp2_with (first | (go_at_call 66; refine (HRg.out _).mono ?_; rintro e w' ⟨rfl, rfl⟩) | (go_at_call 67; refine (HLn.out _).mono ?_; rintro e w' ⟨rfl, rfl⟩))
                      refine (HVal.out _).mono ?_
                      rintro e w8 ⟨rfl, hb⟩
                      have HB8 := Lib.hid (bt HBZ.out hb)
                      have X8 := Lib.hid (XZ.out.step hb)
                      have Z8 := Lib.hid (HZ.out.step hb)
                      clear hb y0 y1 y2 yn1 yn2 XZ HBZ HZ
                      have y0 := Z8.out.cell 0 rfl
                      have y1 := Z8.out.cell 1 rfl
                      have y2 := Z8.out.cell 2 rfl
                      have g0 := X8.out.cell 0 rfl
                      have g1 := X8.out.cell 1 rfl
                      have g2 := X8.out.cell 2 rfl
                      have gn0 := X8.out.frozen 0
                      have gn1 := X8.out.frozen 1
                      have gn2 := X8.out.frozen 2
                      go_wp2
                      have HRes := Lib.hid (((X8.out.set 0 (.int .i64 k)).set 1 (.int .i64 ir)).set 2 (.int .i64 0))
                      refine bodyPost_ret (v := .tuple #[.agg #[.int .i64 k, .int .i64 ir, .int .i64 0], .bool true]) (by simp [results, Tryd.results69, go_sem, HRes.out.cell 0 rfl, HRes.out.cell 1 rfl, HRes.out.cell 2 rfl]) rfl ?_
                      exact ⟨by rw [HF.out], ((HB8.out.setCell (Nat.le_refl _) _).setCell (Nat.le_refl _) _).setCell (Nat.le_refl _) _⟩
              · have q1 : ((n : Int) != 2) = true := by rw [bne_iff_ne]; omega
                have HF : Hid (R = ((0, 0, 0), false)) := Lib.hid (by
                  rw [HR.out]
                  exact rdW_no HOp.out (fun h => hcnt (by have h1 := h.1; have h2 := HL.out; have h3 := HC.out; omega)))
                clear hcnt
                go_quiet ((first | (go_at_call 66; exact quietSame (HRg.out _)) | (go_at_call 67; exact quietSame (HLn.out _)) | (go_at_call 65; exact quietSame (l01BitA _ _))))
                obtain ⟨W4, hW4⟩ : ∃ W, W = wr.drewN nq := ⟨_, rfl⟩
                rw [← hW4]
                have X4 : Hid (Box W4 w.heap.size 24 #[.int .i64 0, .int .i64 0, .int .i64 0]) := Lib.hid (by rw [hW4]; exact XR.out)
                have HB4 : Hid (Below w.heap.size w W4) := Lib.hid (by rw [hW4]; exact bl_drewN HBw.out _)
                clear hW4 y0 XR HBw
                have g0 := X4.out.cell 0 rfl
                have g1 := X4.out.cell 1 rfl
                have g2 := X4.out.cell 2 rfl
                have gn0 := X4.out.frozen 0
                have gn1 := X4.out.frozen 1
                have gn2 := X4.out.frozen 2
                go_wp2
                have HRes := Lib.hid (((X4.out.set 0 (.int .i64 0)).set 1 (.int .i64 0)).set 2 (.int .i64 0))
                refine bodyPost_ret (v := .tuple #[.agg #[.int .i64 0, .int .i64 0, .int .i64 0], .bool false]) (by simp [results, Tryd.results69, go_sem, HRes.out.cell 0 rfl, HRes.out.cell 1 rfl, HRes.out.cell 2 rfl]) rfl ?_
                exact ⟨by rw [HF.out], ((HB4.out.setCell (Nat.le_refl _) _).setCell (Nat.le_refl _) _).setCell (Nat.le_refl _) _⟩
          · have r5 : ¬ 0 < regT k := by unfold regT; rw [if_neg h5]; decide
            rw [rngB_f h5] at HRg
            clear h5
            have pb1 : bitI true = 1 := rfl
            have pb0 : bitI false = 0 := rfl
            have wr1 : IntKind.i64.wrap 1 = 1 := by decide
            have wr2 : IntKind.i64.wrap 2 = 2 := by decide
            have wr3 : IntKind.i64.wrap 3 = 3 := by decide
            by_cases h6 : 1 < lenT k
            · have r6 := (len_arg (k : Int) (by omega)).1 h6
              generalize lenT (k : Int) = ln at HLn h6
              have HC : Hid (cntN (k : Int) = 1) := Lib.hid (by unfold cntN; rw [if_neg r5, if_pos r6])
              by_cases hcnt : n = 2
              · subst hcnt
                have HI : Hid (insR k ws = 0) := Lib.hid (by unfold insR; rw [if_neg r5])
                have HJ : Hid (insA k ws = numV (ws.getD 1 ByteArray.empty)) := Lib.hid (by unfold insA; rw [if_pos r6, HC.out])
                clear r5 r6
                go_quiet ((first | (go_at_call 66; exact quietSame (HRg.out _)) | (go_at_call 67; exact quietSame (HLn.out _)) | (go_at_call 65; exact quietSame (l01BitA _ _))))
                obtain ⟨W4, hW4⟩ : ∃ W, W = wr.drewN nq := ⟨_, rfl⟩
                rw [← hW4]
                have X4 : Hid (Box W4 w.heap.size 24 #[.int .i64 0, .int .i64 0, .int .i64 0]) := Lib.hid (by rw [hW4]; exact XR.out)
                have Y4 : Hid (Box W4 w1.heap.size 24 #[.int .i64 k, .int .i64 0, .int .i64 0]) := Lib.hid (by rw [hW4]; exact HYe.out)
                have HB4 : Hid (Below w.heap.size w W4) := Lib.hid (by rw [hW4]; exact bl_drewN HBw.out _)
                have HB14 : Hid (Below w1.heap.size w1 W4) := Lib.hid (by rw [hW4]; exact bl_drewN HBr.out _)
                have hsz4 : w1.heap.size < W4.heap.size := Y4.out.lt
                clear hW4 y0 XR HYe HBw HBr
                obtain ⟨W5, hW5⟩ : ∃ W, W = W4.alloc (.cells #[] 3) := ⟨_, rfl⟩
                have hb5 : Below W4.heap.size W4 W5 := by rw [hW5]; exact alloc_below _ _
                have E5 : Hid (Box W5 W4.heap.size 3 #[]) := Lib.hid (by rw [hW5]; exact Box.new _ _ _)
                have HB5 := Lib.hid hb5
                have HW5 := Lib.hid hW5
                clear hW5 hb5
                go_wp2
                rw [← HW5.out]
                go_loopw [8, 9] (fun v i wr => ∃ (l : Nat) (A' : Option Addr) (c' : Nat), l ≤ 1 ∧ v = .slice A' l c' ∧ i = .int .i64 ((1 + l : Nat) : Int) ∧ Hid (∀ j, j < l → natW (ws.getD (1 + j) ByteArray.empty) = true) ∧ Hid (GroI wr W4.heap.size (.slice A' l c') (vsK ws l)) ∧ Hid (Below W4.heap.size W4 wr)) (fun _ i _ => 1 + 1 - (intOf i).toNat)
                case atStart => exact ⟨0, _, 0, by omega, rfl, rfl, Lib.hid (fun j hj => by omega), Lib.hid (rowv_empty (Nat.le_refl _) E5.out), HB5⟩
                case round =>
                  clear E5 HB5 HW5
                  obtain ⟨l, A', c', hlc, rfl, rfl, HAll, HG, HBt⟩ := hrel
                  have hsr : W4.heap.size ≤ wr.heap.size := HBt.out.size
                  have XR : Hid (Box wr w.heap.size 24 #[.int .i64 0, .int .i64 0, .int .i64 0]) := Lib.hid (X4.out.below HBt.out (by omega))
                  have YR : Hid (Box wr w1.heap.size 24 #[.int .i64 k, .int .i64 0, .int .i64 0]) := Lib.hid (Y4.out.below HBt.out (by omega))
                  have HBw : Hid (Below w.heap.size w wr) := Lib.hid (HB4.out.trans (HBt.out.mono HB4.out.size))
                  have HB1r : Hid (Below w1.heap.size w1 wr) := Lib.hid (HB14.out.trans (HBt.out.mono HB14.out.size))
                  by_cases hlt : l < 1
                  · have i1 : ((1 + l : Nat) : Int) < 2 := by omega
                    obtain ⟨b2, off2, hA2, hcw⟩ := (HStr.out.below HB1r.out) (1 + l) (by rw [HL.out]; omega)
                    obtain ⟨rfl, rfl⟩ : b = b2 ∧ off = off2 := by injection hA2 with e; injection e with e1 e2; exact ⟨e1, e2⟩
                    have hmem : ws.getD (1 + l) ByteArray.empty ∈ ws := by
                      rw [List.getD_eq_getElem?_getD, List.getElem?_eq_getElem (by rw [HL.out]; omega), Option.getD_some]
                      exact List.getElem_mem _
                    have HV : Hid (vsK ws (l + 1) = vsK ws l ++ [numV (ws.getD (1 + l) ByteArray.empty)]) := Lib.hid rfl
                    have hxs := HSz.out _ hmem
                    have HNa := Lib.hid (fun h (hi : 1 + l < ws.length) => not_all (ws := ws) (i := l) h hi)
                    have HAl : Hid (natW (ws.getD (1 + l) ByteArray.empty) = true → ∀ j, j < l + 1 → natW (ws.getD (1 + j) ByteArray.empty) = true) := Lib.hid (fun hx j hj => by
                      rcases Nat.lt_or_eq_of_le (Nat.lt_succ_iff.1 hj) with h | rfl
                      · exact HAll.out j h
                      · exact hx)
                    have HRw : Hid (wr.ownsRow W4.heap.size 3 1 (.slice A' l c') l ((vsK ws l).map (Value.int .i64))) := Lib.hid (by have := HG.out; unfold GroI at this; rwa [vsK_len] at this)
                    generalize ws.getD (1 + l) ByteArray.empty = x at hcw hxs HV HNa HAl
                    clear hmem hA2 HG
                    have HNu := Lib.hid (fun W => l07NumberS x W (by omega))
                    cases hb : natL x.data.toList with
                    | false =>
                      have HF : Hid (R = ((0, 0, 0), false)) := Lib.hid (by
                        rw [HR.out]
                        exact rdW_no HOp.out (fun h => HNa.out (show natL x.data.toList = false from hb) (by rw [HL.out]; omega) h.2.1))
                      have HNu2 : Hid (∀ W, Calls Tryd.prog 85 #[.string x] W fun e w' => ∃ n : Int, e = .returned (.tuple #[.int .i64 n, .bool false]) ∧ Below W.heap.size W w') := Lib.hid (fun W => (HNu.out W).mono fun e w' ⟨n, h1, _, h3⟩ => ⟨n, by rw [h1, hb], h3⟩)
                      clear hb HNu HNa HAl HV
                      go_wp2_with fail
                      refine (HNu2.out _).mono ?_
                      rintro e w6 ⟨nu, rfl, hb⟩
                      have HB6 := Lib.hid (bt HBw.out hb)
                      have X6 := Lib.hid (XR.out.step hb)
                      clear hb XR HBw
                      have g0 := X6.out.cell 0 rfl
                      have g1 := X6.out.cell 1 rfl
                      have g2 := X6.out.cell 2 rfl
                      have gn0 := X6.out.frozen 0
                      have gn1 := X6.out.frozen 1
                      have gn2 := X6.out.frozen 2
                      go_wp2
                      have HRes := Lib.hid (((X6.out.set 0 (.int .i64 0)).set 1 (.int .i64 0)).set 2 (.int .i64 0))
                      refine bodyPost_ret (v := .tuple #[.agg #[.int .i64 0, .int .i64 0, .int .i64 0], .bool false]) (by simp [results, Tryd.results69, go_sem, HRes.out.cell 0 rfl, HRes.out.cell 1 rfl, HRes.out.cell 2 rfl]) rfl ?_
                      exact ⟨by rw [HF.out], ((HB6.out.setCell (Nat.le_refl _) _).setCell (Nat.le_refl _) _).setCell (Nat.le_refl _) _⟩
                    | true =>
                      have HNu2 : Hid (∀ W, Calls Tryd.prog 85 #[.string x] W fun e w' => e = .returned (.tuple #[.int .i64 (numV x), .bool true]) ∧ Below W.heap.size W w') := Lib.hid (fun W => (HNu.out W).mono fun e w' ⟨n, h1, h2, h3⟩ => ⟨by rw [h1, hb, h2 hb]; unfold numV natV; rw [if_pos hb], h3⟩)
                      have HAl2 := Lib.hid (HAl.out hb)
                      clear hb HNu HNa HAl
                      generalize numV x = nu at HNu2 HV
                      go_wp2_with fail
                      refine (HNu2.out _).mono ?_
                      rintro e w6 ⟨rfl, hb⟩
                      have HB6 := Lib.hid (bt HBt.out hb)
                      have HRw6 := Lib.hid (rowv_below HRw.out hb)
                      have hs6 : W4.heap.size ≤ w6.heap.size := HB6.out.size
                      clear hb
                      have HBa : Hid (Below w6.heap.size w6 (w6.alloc (.cells #[.int .i64 nu] 3))) := Lib.hid (alloc_below _ _)
                      have HOw := Lib.hid (rowv_below HRw6.out HBa.out)
                      have HNw : Hid (∀ i u, [Value.int .i64 nu][i]? = some u → (w6.alloc (.cells #[.int .i64 nu] 3)).cell? ⟨w6.heap.size, i, none⟩ = some u) := Lib.hid (fun i u hi => by
                        match i, hi with
                        | 0, hi => simp at hi; subst hi; exact (Box.new w6 3 #[.int .i64 nu]).cell 0 rfl)
                      go_wp2_with (at_builtin; refine wpList_app_one rfl (.tmp 75) (.tmp 77) 26 3 rfl (.int .i64 0) 1 8 elemInt Tryd.underlying26 W4.heap.size (.slice A' l c') l ((vsK ws l).map (Value.int .i64)) rfl ?_ w6.heap.size 1 rfl [.int .i64 nu] rfl ?_ ?_ ?_ ?_ ?_ ?_)
                      any_goals first | rfl | exact HOw.out | exact HNw.out | (intro u hu; simp at hu; subst hu; rfl) | (unfold maxLen; omega) | omega | (simp; done) | (simp; omega)
                      intro A2 c2 w7 hR2 hc2 hg2 hb2
                      have HR2 := Lib.hid hR2
                      have HB7 := Lib.hid ((bt HB6.out HBa.out).trans (hb2.mono (Nat.le_refl _)))
                      clear hR2 hb2 hg2
                      go_wp2
                      go_roundw
                      case rel =>
                        refine ⟨l + 1, A2, c2, by omega, rfl, by go_num, HAl2, Lib.hid ?_, HB7⟩
                        unfold GroI; rw [vsK_len, HV.out, List.map_append]; exact HR2.out
                      case measure => simp [intOf]; omega
                  · obtain rfl : l = 1 := by omega
                    obtain h0 | ⟨ab, mm, ff, hA3, hlo, _⟩ := HG.out.own (Nat.le_refl _)
                    · exact absurd (congrArg List.length h0) (by rw [vsK_len]; decide)
                    obtain ⟨ab1, aoff, hA5, hcA⟩ := (HG.out.own (Nat.le_refl _)).reads 0 (by rw [vsK_len]; omega)
                    subst hA3
                    obtain ⟨rfl, rfl⟩ : ab = ab1 ∧ 0 = aoff := by injection hA5 with e; injection e with e1 e2; exact ⟨e1, e2⟩
                    clear hA5
                    rw [vsK_getD ws 0 1 (by omega), Nat.add_zero, Nat.add_zero] at hcA
                    have HC2 := Lib.hid (And.intro (show ws.length = 1 + cntN (k : Int) by rw [HL.out, HC.out]) (all_upto HAll.out (by rw [HL.out])))
                    have HYes := Lib.hid (fun h => rdW_yes HOp.out ⟨HC2.out.1, HC2.out.2, h⟩)
                    have HNo := Lib.hid (fun (h : okIns k (insR k ws) (insA k ws) = false) => rdW_no (ws := ws) HOp.out (fun q => absurd q.2.2 (by rw [h]; decide)))
                    rw [HI.out, HJ.out] at HYes HNo
                    clear HI HJ
                    generalize numV (ws.getD 1 ByteArray.empty) = ia at hcA HYes HNo
                    have HVal := Lib.hid (fun W => specInstrOK (k : Int) 0 ia W)
                    have HZ : Hid (Box (wr.setCell ⟨w1.heap.size, 2, none⟩ (.int .i64 ia)) w1.heap.size 24 #[.int .i64 k, .int .i64 0, .int .i64 ia]) := Lib.hid (YR.out.set 2 _)
                    have XZ : Hid (Box (wr.setCell ⟨w1.heap.size, 2, none⟩ (.int .i64 ia)) w.heap.size 24 #[.int .i64 0, .int .i64 0, .int .i64 0]) := Lib.hid (XR.out.btw ((Btw.refl w1.heap.size (w1.heap.size + 1) wr).setCell (Nat.le_refl _) (Nat.lt_succ_self _) _) (.inl hsz1))
                    have HBZ : Hid (Below w.heap.size w (wr.setCell ⟨w1.heap.size, 2, none⟩ (.int .i64 ia))) := Lib.hid (HBw.out.setCell (Nat.le_of_lt hsz1) _)
                    have y0 := YR.out.cell 0 rfl
                    have y1 := YR.out.cell 1 rfl
                    have y2 := YR.out.cell 2 rfl
                    have yn1 := YR.out.frozen 1
                    have yn2 := YR.out.frozen 2
                    cases hok : okIns (k : Int) 0 ia with
                    | false =>
                      rw [hok] at HVal
                      have HF : Hid (R = ((0, 0, 0), false)) := Lib.hid (by rw [HR.out]; exact HNo.out hok)
                      clear hok HYes HNo
                      go_wp2_with (first | (go_at_call 66; refine (HRg.out _).mono ?_; rintro e w' ⟨rfl, rfl⟩) | (go_at_call 67; refine (HLn.out _).mono ?_; rintro e w' ⟨rfl, rfl⟩))
                      refine (HVal.out _).mono ?_
                      rintro e w8 ⟨rfl, hb⟩
                      have HB8 := Lib.hid (bt HBZ.out hb)
                      have X8 := Lib.hid (XZ.out.step hb)
                      clear hb y0 y1 y2 yn1 yn2 XZ HBZ HZ
                      have g0 := X8.out.cell 0 rfl
                      have g1 := X8.out.cell 1 rfl
                      have g2 := X8.out.cell 2 rfl
                      have gn0 := X8.out.frozen 0
                      have gn1 := X8.out.frozen 1
                      have gn2 := X8.out.frozen 2
                      go_wp2
                      have HRes := Lib.hid (((X8.out.set 0 (.int .i64 0)).set 1 (.int .i64 0)).set 2 (.int .i64 0))
                      refine bodyPost_ret (v := .tuple #[.agg #[.int .i64 0, .int .i64 0, .int .i64 0], .bool false]) (by simp [results, Tryd.results69, go_sem, HRes.out.cell 0 rfl, HRes.out.cell 1 rfl, HRes.out.cell 2 rfl]) rfl ?_
                      exact ⟨by rw [HF.out], ((HB8.out.setCell (Nat.le_refl _) _).setCell (Nat.le_refl _) _).setCell (Nat.le_refl _) _⟩
                    | true =>
                      rw [hok] at HVal
                      have HF : Hid (R = (((k : Int), 0, ia), true)) := Lib.hid (by rw [HR.out]; exact HYes.out hok)
                      clear hok HYes HNo
                      go_wp2_with (first | (go_at_call 66; refine (HRg.out _).mono ?_; rintro e w' ⟨rfl, rfl⟩) | (go_at_call 67; refine (HLn.out _).mono ?_; rintro e w' ⟨rfl, rfl⟩))
                      refine (HVal.out _).mono ?_
                      rintro e w8 ⟨rfl, hb⟩
                      have HB8 := Lib.hid (bt HBZ.out hb)
                      have X8 := Lib.hid (XZ.out.step hb)
                      have Z8 := Lib.hid (HZ.out.step hb)
                      clear hb y0 y1 y2 yn1 yn2 XZ HBZ HZ
                      have y0 := Z8.out.cell 0 rfl
                      have y1 := Z8.out.cell 1 rfl
                      have y2 := Z8.out.cell 2 rfl
                      have g0 := X8.out.cell 0 rfl
                      have g1 := X8.out.cell 1 rfl
                      have g2 := X8.out.cell 2 rfl
                      have gn0 := X8.out.frozen 0
                      have gn1 := X8.out.frozen 1
                      have gn2 := X8.out.frozen 2
                      go_wp2
                      have HRes := Lib.hid (((X8.out.set 0 (.int .i64 k)).set 1 (.int .i64 0)).set 2 (.int .i64 ia))
                      refine bodyPost_ret (v := .tuple #[.agg #[.int .i64 k, .int .i64 0, .int .i64 ia], .bool true]) (by simp [results, Tryd.results69, go_sem, HRes.out.cell 0 rfl, HRes.out.cell 1 rfl, HRes.out.cell 2 rfl]) rfl ?_
                      exact ⟨by rw [HF.out], ((HB8.out.setCell (Nat.le_refl _) _).setCell (Nat.le_refl _) _).setCell (Nat.le_refl _) _⟩
              · have q1 : ((n : Int) != 2) = true := by rw [bne_iff_ne]; omega
                have HF : Hid (R = ((0, 0, 0), false)) := Lib.hid (by
                  rw [HR.out]
                  exact rdW_no HOp.out (fun h => hcnt (by have h1 := h.1; have h2 := HL.out; have h3 := HC.out; omega)))
                clear hcnt
                go_quiet ((first | (go_at_call 66; exact quietSame (HRg.out _)) | (go_at_call 67; exact quietSame (HLn.out _)) | (go_at_call 65; exact quietSame (l01BitA _ _))))
                obtain ⟨W4, hW4⟩ : ∃ W, W = wr.drewN nq := ⟨_, rfl⟩
                rw [← hW4]
                have X4 : Hid (Box W4 w.heap.size 24 #[.int .i64 0, .int .i64 0, .int .i64 0]) := Lib.hid (by rw [hW4]; exact XR.out)
                have HB4 : Hid (Below w.heap.size w W4) := Lib.hid (by rw [hW4]; exact bl_drewN HBw.out _)
                clear hW4 y0 XR HBw
                have g0 := X4.out.cell 0 rfl
                have g1 := X4.out.cell 1 rfl
                have g2 := X4.out.cell 2 rfl
                have gn0 := X4.out.frozen 0
                have gn1 := X4.out.frozen 1
                have gn2 := X4.out.frozen 2
                go_wp2
                have HRes := Lib.hid (((X4.out.set 0 (.int .i64 0)).set 1 (.int .i64 0)).set 2 (.int .i64 0))
                refine bodyPost_ret (v := .tuple #[.agg #[.int .i64 0, .int .i64 0, .int .i64 0], .bool false]) (by simp [results, Tryd.results69, go_sem, HRes.out.cell 0 rfl, HRes.out.cell 1 rfl, HRes.out.cell 2 rfl]) rfl ?_
                exact ⟨by rw [HF.out], ((HB4.out.setCell (Nat.le_refl _) _).setCell (Nat.le_refl _) _).setCell (Nat.le_refl _) _⟩
            · have r6 := fun h => h6 ((len_arg (k : Int) (by omega)).2 h)
              generalize lenT (k : Int) = ln at HLn h6
              have HC : Hid (cntN (k : Int) = 0) := Lib.hid (by unfold cntN; rw [if_neg r5, if_neg r6])
              by_cases hcnt : n = 1
              · subst hcnt
                have HI : Hid (insR k ws = 0) := Lib.hid (by unfold insR; rw [if_neg r5])
                have HJ : Hid (insA k ws = 0) := Lib.hid (by unfold insA; rw [if_neg r6])
                clear r5 r6
                go_quiet ((first | (go_at_call 66; exact quietSame (HRg.out _)) | (go_at_call 67; exact quietSame (HLn.out _)) | (go_at_call 65; exact quietSame (l01BitA _ _))))
                obtain ⟨W4, hW4⟩ : ∃ W, W = wr.drewN nq := ⟨_, rfl⟩
                rw [← hW4]
                have X4 : Hid (Box W4 w.heap.size 24 #[.int .i64 0, .int .i64 0, .int .i64 0]) := Lib.hid (by rw [hW4]; exact XR.out)
                have Y4 : Hid (Box W4 w1.heap.size 24 #[.int .i64 k, .int .i64 0, .int .i64 0]) := Lib.hid (by rw [hW4]; exact HYe.out)
                have HB4 : Hid (Below w.heap.size w W4) := Lib.hid (by rw [hW4]; exact bl_drewN HBw.out _)
                have HB14 : Hid (Below w1.heap.size w1 W4) := Lib.hid (by rw [hW4]; exact bl_drewN HBr.out _)
                have hsz4 : w1.heap.size < W4.heap.size := Y4.out.lt
                clear hW4 y0 XR HYe HBw HBr
                obtain ⟨W5, hW5⟩ : ∃ W, W = W4.alloc (.cells #[] 3) := ⟨_, rfl⟩
                have hb5 : Below W4.heap.size W4 W5 := by rw [hW5]; exact alloc_below _ _
                have E5 : Hid (Box W5 W4.heap.size 3 #[]) := Lib.hid (by rw [hW5]; exact Box.new _ _ _)
                have HB5 := Lib.hid hb5
                have HW5 := Lib.hid hW5
                clear hW5 hb5
                go_wp2
                rw [← HW5.out]
                go_loopw [8, 9] (fun v i wr => ∃ (l : Nat) (A' : Option Addr) (c' : Nat), l ≤ 0 ∧ v = .slice A' l c' ∧ i = .int .i64 ((1 + l : Nat) : Int) ∧ Hid (∀ j, j < l → natW (ws.getD (1 + j) ByteArray.empty) = true) ∧ Hid (GroI wr W4.heap.size (.slice A' l c') (vsK ws l)) ∧ Hid (Below W4.heap.size W4 wr)) (fun _ i _ => 1 + 0 - (intOf i).toNat)
                case atStart => exact ⟨0, _, 0, by omega, rfl, rfl, Lib.hid (fun j hj => by omega), Lib.hid (rowv_empty (Nat.le_refl _) E5.out), HB5⟩
                case round =>
                  clear E5 HB5 HW5
                  obtain ⟨l, A', c', hlc, rfl, rfl, HAll, HG, HBt⟩ := hrel
                  have hsr : W4.heap.size ≤ wr.heap.size := HBt.out.size
                  have XR : Hid (Box wr w.heap.size 24 #[.int .i64 0, .int .i64 0, .int .i64 0]) := Lib.hid (X4.out.below HBt.out (by omega))
                  have YR : Hid (Box wr w1.heap.size 24 #[.int .i64 k, .int .i64 0, .int .i64 0]) := Lib.hid (Y4.out.below HBt.out (by omega))
                  have HBw : Hid (Below w.heap.size w wr) := Lib.hid (HB4.out.trans (HBt.out.mono HB4.out.size))
                  have HB1r : Hid (Below w1.heap.size w1 wr) := Lib.hid (HB14.out.trans (HBt.out.mono HB14.out.size))
                  obtain rfl : l = 0 := by omega
                  have HC2 := Lib.hid (And.intro (show ws.length = 1 + cntN (k : Int) by rw [HL.out, HC.out]) (all_upto HAll.out (by rw [HL.out])))
                  have HYes := Lib.hid (fun h => rdW_yes HOp.out ⟨HC2.out.1, HC2.out.2, h⟩)
                  have HNo := Lib.hid (fun (h : okIns k (insR k ws) (insA k ws) = false) => rdW_no (ws := ws) HOp.out (fun q => absurd q.2.2 (by rw [h]; decide)))
                  rw [HI.out, HJ.out] at HYes HNo
                  clear HI HJ
                  have HVal := Lib.hid (fun W => specInstrOK (k : Int) 0 0 W)
                  have HZ : Hid (Box wr w1.heap.size 24 #[.int .i64 k, .int .i64 0, .int .i64 0]) := Lib.hid YR.out
                  have XZ : Hid (Box wr w.heap.size 24 #[.int .i64 0, .int .i64 0, .int .i64 0]) := Lib.hid (XR.out.btw (Btw.refl w1.heap.size (w1.heap.size + 1) wr) (.inl hsz1))
                  have HBZ : Hid (Below w.heap.size w wr) := Lib.hid HBw.out
                  have y0 := YR.out.cell 0 rfl
                  have y1 := YR.out.cell 1 rfl
                  have y2 := YR.out.cell 2 rfl
                  have yn1 := YR.out.frozen 1
                  have yn2 := YR.out.frozen 2
                  cases hok : okIns (k : Int) 0 0 with
                  | false =>
                    rw [hok] at HVal
                    have HF : Hid (R = ((0, 0, 0), false)) := Lib.hid (by rw [HR.out]; exact HNo.out hok)
                    clear hok HYes HNo
                    go_wp2_with (first | (go_at_call 66; refine (HRg.out _).mono ?_; rintro e w' ⟨rfl, rfl⟩) | (go_at_call 67; refine (HLn.out _).mono ?_; rintro e w' ⟨rfl, rfl⟩))
                    refine (HVal.out _).mono ?_
                    rintro e w8 ⟨rfl, hb⟩
                    have HB8 := Lib.hid (bt HBZ.out hb)
                    have X8 := Lib.hid (XZ.out.step hb)
                    clear hb y0 y1 y2 yn1 yn2 XZ HBZ HZ
                    have g0 := X8.out.cell 0 rfl
                    have g1 := X8.out.cell 1 rfl
                    have g2 := X8.out.cell 2 rfl
                    have gn0 := X8.out.frozen 0
                    have gn1 := X8.out.frozen 1
                    have gn2 := X8.out.frozen 2
                    go_wp2
                    have HRes := Lib.hid (((X8.out.set 0 (.int .i64 0)).set 1 (.int .i64 0)).set 2 (.int .i64 0))
                    refine bodyPost_ret (v := .tuple #[.agg #[.int .i64 0, .int .i64 0, .int .i64 0], .bool false]) (by simp [results, Tryd.results69, go_sem, HRes.out.cell 0 rfl, HRes.out.cell 1 rfl, HRes.out.cell 2 rfl]) rfl ?_
                    exact ⟨by rw [HF.out], ((HB8.out.setCell (Nat.le_refl _) _).setCell (Nat.le_refl _) _).setCell (Nat.le_refl _) _⟩
                  | true =>
                    rw [hok] at HVal
                    have HF : Hid (R = (((k : Int), 0, 0), true)) := Lib.hid (by rw [HR.out]; exact HYes.out hok)
                    clear hok HYes HNo
                    go_wp2_with (first | (go_at_call 66; refine (HRg.out _).mono ?_; rintro e w' ⟨rfl, rfl⟩) | (go_at_call 67; refine (HLn.out _).mono ?_; rintro e w' ⟨rfl, rfl⟩))
                    refine (HVal.out _).mono ?_
                    rintro e w8 ⟨rfl, hb⟩
                    have HB8 := Lib.hid (bt HBZ.out hb)
                    have X8 := Lib.hid (XZ.out.step hb)
                    have Z8 := Lib.hid (HZ.out.step hb)
                    clear hb y0 y1 y2 yn1 yn2 XZ HBZ HZ
                    have y0 := Z8.out.cell 0 rfl
                    have y1 := Z8.out.cell 1 rfl
                    have y2 := Z8.out.cell 2 rfl
                    have g0 := X8.out.cell 0 rfl
                    have g1 := X8.out.cell 1 rfl
                    have g2 := X8.out.cell 2 rfl
                    have gn0 := X8.out.frozen 0
                    have gn1 := X8.out.frozen 1
                    have gn2 := X8.out.frozen 2
                    go_wp2
                    have HRes := Lib.hid (((X8.out.set 0 (.int .i64 k)).set 1 (.int .i64 0)).set 2 (.int .i64 0))
                    refine bodyPost_ret (v := .tuple #[.agg #[.int .i64 k, .int .i64 0, .int .i64 0], .bool true]) (by simp [results, Tryd.results69, go_sem, HRes.out.cell 0 rfl, HRes.out.cell 1 rfl, HRes.out.cell 2 rfl]) rfl ?_
                    exact ⟨by rw [HF.out], ((HB8.out.setCell (Nat.le_refl _) _).setCell (Nat.le_refl _) _).setCell (Nat.le_refl _) _⟩
              · have q1 : ((n : Int) != 1) = true := by rw [bne_iff_ne]; omega
                have HF : Hid (R = ((0, 0, 0), false)) := Lib.hid (by
                  rw [HR.out]
                  exact rdW_no HOp.out (fun h => hcnt (by have h1 := h.1; have h2 := HL.out; have h3 := HC.out; omega)))
                clear hcnt
                go_quiet ((first | (go_at_call 66; exact quietSame (HRg.out _)) | (go_at_call 67; exact quietSame (HLn.out _)) | (go_at_call 65; exact quietSame (l01BitA _ _))))
                obtain ⟨W4, hW4⟩ : ∃ W, W = wr.drewN nq := ⟨_, rfl⟩
                rw [← hW4]
                have X4 : Hid (Box W4 w.heap.size 24 #[.int .i64 0, .int .i64 0, .int .i64 0]) := Lib.hid (by rw [hW4]; exact XR.out)
                have HB4 : Hid (Below w.heap.size w W4) := Lib.hid (by rw [hW4]; exact bl_drewN HBw.out _)
                clear hW4 y0 XR HBw
                have g0 := X4.out.cell 0 rfl
                have g1 := X4.out.cell 1 rfl
                have g2 := X4.out.cell 2 rfl
                have gn0 := X4.out.frozen 0
                have gn1 := X4.out.frozen 1
                have gn2 := X4.out.frozen 2
                go_wp2
                have HRes := Lib.hid (((X4.out.set 0 (.int .i64 0)).set 1 (.int .i64 0)).set 2 (.int .i64 0))
                refine bodyPost_ret (v := .tuple #[.agg #[.int .i64 0, .int .i64 0, .int .i64 0], .bool false]) (by simp [results, Tryd.results69, go_sem, HRes.out.cell 0 rfl, HRes.out.cell 1 rfl, HRes.out.cell 2 rfl]) rfl ?_
                exact ⟨by rw [HF.out], ((HB4.out.setCell (Nat.le_refl _) _).setCell (Nat.le_refl _) _).setCell (Nat.le_refl _) _⟩
end Go.Proofs.YtoaeofahknknhaaDoor
