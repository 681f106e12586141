/- Reading a line, the program's. Written by gen_read.py. -/
import Derived.Test.YtcchhbkbnbphhaaDoorWds3
import Derived.Test.YtcchhbkbnbphhaaDoorNum
import Derived.Test.YtcchhbkbnbphhaaDoorM2
import Derived.Test.YtcchhbkbnbphhaaDoorM1
namespace Go.Proofs.YtcchhbkbnbphhaaDoor
open Go.RowKit

def cntN (op : Int) : Nat := (if 0 < regT op then 1 else 0) + (if 0 < argT op then 1 else 0)
def natW (x : ByteArray) : Bool := natL x.data.toList
def numV (x : ByteArray) : Int := natV x.data.toList
def rdO : List ByteArray → Option Int
  | [] => none
  | z :: _ => opOf z
def insR (op : Int) (ws : List ByteArray) : Int := if 0 < regT op then numV (ws.getD 1 ByteArray.empty) else 0
def insA (op : Int) (ws : List ByteArray) : Int := if 0 < argT op then numV (ws.getD (cntN op) ByteArray.empty) else 0
def rdW (ws : List ByteArray) : (Int × Int × Int) × Bool :=
  match rdO ws with
  | none => ((0, 0, 0), false)
  | some op => if ws.length = 1 + cntN op ∧ (ws.drop 1).all natW = true ∧ okIns op (insR op ws) (insA op ws) = true then ((op, insR op ws, insA op ws), true) else ((0, 0, 0), false)
def rdF (s : ByteArray) : (Int × Int × Int) × Bool := rdW (wordsB s)
theorem rdW_none {ws : List ByteArray} (h : rdO ws = none) : rdW ws = ((0, 0, 0), false) := by unfold rdW; rw [h]
theorem rdW_no {ws : List ByteArray} {op : Int} (h : rdO ws = some op) (h2 : ¬ (ws.length = 1 + cntN op ∧ (ws.drop 1).all natW = true ∧ okIns op (insR op ws) (insA op ws) = true)) : rdW ws = ((0, 0, 0), false) := by
  unfold rdW; rw [h]
  simp only [if_neg h2]
theorem rdW_yes {ws : List ByteArray} {op : Int} (h : rdO ws = some op) (h2 : ws.length = 1 + cntN op ∧ (ws.drop 1).all natW = true ∧ okIns op (insR op ws) (insA op ws) = true) : rdW ws = ((op, insR op ws, insA op ws), true) := by
  unfold rdW; rw [h]
  simp only [if_pos h2]
theorem words_size (s : ByteArray) : ∀ x ∈ wordsB s, x.size ≤ s.size := by
  intro x hx
  unfold wordsB at hx
  rw [List.mem_map] at hx
  obtain ⟨l, hl, rfl⟩ := hx
  have := (wordsA_mem _ _ l hl).2
  rw [bs_size]
  simpa using this
theorem cntN_le (op : Int) : cntN op ≤ 2 := by unfold cntN; split <;> split <;> omega
theorem places_cnt (op : Int) (b : Nat) : (placesL (regT op) (argT op) b).length = cntN op := by
  unfold placesL cntN
  by_cases h3 : 0 < regT op <;> by_cases h4 : 0 < argT op <;> simp [h3, h4]
def xsK (op : Int) (b : Nat) (ws : List ByteArray) : Nat → Array Value
  | 0 => #[.int .i64 op, .int .i64 0, .int .i64 0]
  | k + 1 => (xsK op b ws k).setIfInBounds ((placesL (regT op) (argT op) b).getD k ⟨0, 0, none⟩).off (.int .i64 (numV (ws.getD (1 + k) ByteArray.empty)))
theorem xsK_size (op : Int) (b : Nat) (ws : List ByteArray) : ∀ k, (xsK op b ws k).size = 3
  | 0 => rfl
  | k + 1 => by rw [xsK, Array.size_setIfInBounds, xsK_size op b ws k]
theorem xsK_place (op : Int) (b : Nat) (k : Nat) (h : k < cntN op) : ∃ j, j < 3 ∧ (placesL (regT op) (argT op) b).getD k ⟨0, 0, none⟩ = ⟨b, j, none⟩ := by
  unfold cntN at h
  unfold placesL
  by_cases h3 : 0 < regT op <;> by_cases h4 : 0 < argT op <;> simp only [h3, h4, if_true, if_false, List.append_nil, List.nil_append, List.cons_append] at h ⊢
  · match k, h with
    | 0, _ => exact ⟨1, by omega, rfl⟩
    | 1, _ => exact ⟨2, by omega, rfl⟩
  · match k, h with
    | 0, _ => exact ⟨1, by omega, rfl⟩
  · match k, h with
    | 0, _ => exact ⟨2, by omega, rfl⟩
  · omega
theorem xsK_end (op : Int) (b : Nat) (ws : List ByteArray) : xsK op b ws (cntN op) = #[.int .i64 op, .int .i64 (insR op ws), .int .i64 (insA op ws)] := by
  by_cases h3 : 0 < regT op <;> by_cases h4 : 0 < argT op
  · have e : cntN op = 2 := by unfold cntN; simp only [h3, h4, if_true]
    have ep : placesL (regT op) (argT op) b = [⟨b, 1, none⟩, ⟨b, 2, none⟩] := by unfold placesL; simp only [h3, h4, if_true]; rfl
    unfold insR insA
    rw [e, if_pos h3, if_pos h4]
    simp only [xsK, ep]
    rfl
  · have e : cntN op = 1 := by unfold cntN; simp only [h3, h4, if_true, if_false]
    have ep : placesL (regT op) (argT op) b = [⟨b, 1, none⟩] := by unfold placesL; simp only [h3, h4, if_true, if_false]; rfl
    unfold insR insA
    rw [e, if_pos h3, if_neg h4]
    simp only [xsK, ep]
    rfl
  · have e : cntN op = 1 := by unfold cntN; simp only [h3, h4, if_true, if_false]
    have ep : placesL (regT op) (argT op) b = [⟨b, 2, none⟩] := by unfold placesL; simp only [h3, h4, if_true, if_false]; rfl
    unfold insR insA
    rw [e, if_neg h3, if_pos h4]
    simp only [xsK, ep]
    rfl
  · have e : cntN op = 0 := by unfold cntN; simp only [h3, h4, if_false]
    unfold insR insA
    rw [e, if_neg h3, if_neg h4]
    rfl
def GivesX (r : (Int × Int × Int) × Bool) (w : World) (e : Ending) (w' : World) : Prop := e = .returned (.tuple #[.agg #[.int .i64 r.1.1, .int .i64 r.1.2.1, .int .i64 r.1.2.2], .bool r.2]) ∧ Below w.heap.size w w'
theorem take4_getD (ws : List ByteArray) (k : Nat) (h : k < 4) : (ws.take 4).getD k ByteArray.empty = ws.getD k ByteArray.empty := by
  simp only [List.getD_eq_getElem?_getD, List.getElem?_take, if_pos h]
theorem rdO_head {ws : List ByteArray} (h : 0 < ws.length) : rdO ws = opOf (ws.getD 0 ByteArray.empty) := by
  cases ws with
  | nil => simp at h
  | cons z r => rfl
theorem all_upto {ws : List ByteArray} {k : Nat} (h : ∀ i, i < k → natW (ws.getD (1 + i) ByteArray.empty) = true) (hk : ws.length = 1 + k) : (ws.drop 1).all natW = true := by
  rw [List.all_eq_true]
  intro x hx
  obtain ⟨i, hi⟩ := List.getElem?_of_mem hx
  rw [List.getElem?_drop] at hi
  have hlt : 1 + i < ws.length := (List.getElem?_eq_some_iff.1 hi).1
  have := h i (by omega)
  rw [List.getD_eq_getElem?_getD, hi] at this
  exact this
theorem not_all {ws : List ByteArray} {i : Nat} (h : natW (ws.getD (1 + i) ByteArray.empty) = false) (hi : 1 + i < ws.length) : ¬ (ws.drop 1).all natW = true := by
  intro ha
  rw [List.all_eq_true] at ha
  have hm : ws.getD (1 + i) ByteArray.empty ∈ ws.drop 1 := by
    rw [List.getD_eq_getElem?_getD, List.getElem?_eq_getElem hi, Option.getD_some]
    exact List.mem_of_getElem? (i := i) (by rw [List.getElem?_drop, List.getElem?_eq_getElem hi])
  rw [ha _ hm] at h
  cases h

set_option maxHeartbeats 16000000 in
set_option maxRecDepth 100000 in
theorem readI (m : Nat) (s : ByteArray) (w : World) (hs : s.size ≤ 1048577) (ht : OpsT w) (hv : VocM w m (vocL 22)) : Calls Tryd.prog 31 #[.map (some m), .string s] w (GivesX (rdF s) w) := by
  have HR : Hid (rdF s = rdW (wordsB s)) := Lib.hid rfl
  have HSz := Lib.hid (words_size s)
  have HFW := Lib.hid (fun W => firstWords s W (by unfold maxLen; omega))
  generalize rdF s = R at HR ⊢
  generalize wordsB s = ws at HR HSz HFW
  have HT := Lib.hid ht
  have HV := Lib.hid hv
  have hlt0 := ht.lt
  clear ht hv
  obtain ⟨W0, hW0⟩ : ∃ W0, W0 = w.alloc (.cells #[.int .i64 0, .int .i64 0, .int .i64 0] 24) := ⟨_, rfl⟩
  have hb0 : Below w.heap.size w W0 := by rw [hW0]; exact alloc_below _ _
  have X0 : Hid (Box W0 w.heap.size 24 #[.int .i64 0, .int .i64 0, .int .i64 0]) := Lib.hid (by rw [hW0]; exact Box.new _ _ _)
  have HW0 := Lib.hid hW0
  have HB0 := Lib.hid hb0
  clear hW0 hb0
  go_enter Tryd.func31, Tryd.ntmps31
  go_wp2_with fail
  rw [← HW0.out]
  refine (HFW.out W0).mono ?_
  rintro e w1 ⟨A, n, c, rfl, hl, HO, hb⟩
  have hl4 : n = min 4 ws.length := by rw [← hl, List.length_take]
  have HL := Lib.hid hl
  have hn4 : n ≤ 4 := by omega
  have HB1 := Lib.hid (bt HB0.out hb)
  have X1 := Lib.hid (X0.out.step hb)
  have HStr := Lib.hid HO.out.reads
  have HN4 := Lib.hid hl4
  clear hl hb HB0 X0 HFW HO HW0 hl4
  have g0 := X1.out.cell 0 rfl
  have g1 := X1.out.cell 1 rfl
  have g2 := X1.out.cell 2 rfl
  have gn0 := X1.out.frozen 0
  have gn1 := X1.out.frozen 1
  have gn2 := X1.out.frozen 2
  by_cases hn0 : n = 0
  · have q0 : ((n : Int) == 0) = true := by rw [beq_iff_eq]; omega
    have HF : Hid (R = ((0, 0, 0), false)) := Lib.hid (by
      have : ws = [] := List.eq_nil_of_length_eq_zero (by have := HN4.out; omega)
      rw [HR.out, this]; rfl)
    clear hn0
    go_wp2
    have HRes := Lib.hid (((X1.out.set 0 (.int .i64 0)).set 1 (.int .i64 0)).set 2 (.int .i64 0))
    refine bodyPost_ret (v := .tuple #[.agg #[.int .i64 0, .int .i64 0, .int .i64 0], .bool false]) (by simp [results, Tryd.results31, go_sem, HRes.out.cell 0 rfl, HRes.out.cell 1 rfl, HRes.out.cell 2 rfl]) rfl ?_
    exact ⟨by rw [HF.out], ((HB1.out.setCell (Nat.le_refl _) _).setCell (Nat.le_refl _) _).setCell (Nat.le_refl _) _⟩
  · have q0 : ((n : Int) == 0) = false := by rw [beq_eq_false_iff_ne]; omega
    have hnp : (0 : Int) < (n : Int) := by omega
    have hwl : 0 < ws.length := by have := HN4.out; omega
    obtain ⟨b, off, hA, hc0⟩ := HStr.out 0 (by rw [HL.out]; omega)
    rw [take4_getD _ _ (by omega), Nat.add_zero] at hc0
    have HHd := Lib.hid (rdO_head hwl)
    subst hA
    have hlook := run_voc_look (P := Tryd.prog) Tryd.underlying64 Tryd.underlying9 (zeroInt w1) (HV.out.below HB1.out) (ws.getD 0 ByteArray.empty)
    rw [show lookV (ws.getD 0 ByteArray.empty) (vocL 22) = opOf (ws.getD 0 ByteArray.empty) from rfl] at hlook
    generalize ws.getD 0 ByteArray.empty = z at hc0 hlook HHd
    cases ho : opOf z with
    | none =>
      rw [ho] at hlook
      simp only [Option.getD_none, Option.isSome_none] at hlook
      have HF : Hid (R = ((0, 0, 0), false)) := Lib.hid (by rw [HR.out]; exact rdW_none (by rw [HHd.out, ho]))
      clear ho
      go_wp2
      have HRes := Lib.hid (((X1.out.set 0 (.int .i64 0)).set 1 (.int .i64 0)).set 2 (.int .i64 0))
      refine bodyPost_ret (v := .tuple #[.agg #[.int .i64 0, .int .i64 0, .int .i64 0], .bool false]) (by simp [results, Tryd.results31, go_sem, HRes.out.cell 0 rfl, HRes.out.cell 1 rfl, HRes.out.cell 2 rfl]) rfl ?_
      exact ⟨by rw [HF.out], ((HB1.out.setCell (Nat.le_refl _) _).setCell (Nat.le_refl _) _).setCell (Nat.le_refl _) _⟩
    | some op =>
      rw [ho] at hlook
      simp only [Option.getD_some, Option.isSome_some] at hlook
      have HOp := Lib.hid (HHd.out.trans ho)
      obtain ⟨ho1, ho2⟩ := opOf_range ho
      clear ho HHd
      obtain ⟨k, rfl⟩ : ∃ k : Nat, op = k := ⟨op.toNat, by omega⟩
      obtain ⟨W2, hW2⟩ : ∃ W2, W2 = w1.alloc (.cells #[.int .i64 k, .int .i64 0, .int .i64 0] 24) := ⟨_, rfl⟩
      have hb2 : Below w1.heap.size w1 W2 := by rw [hW2]; exact alloc_below _ _
      have Y2 : Hid (Box W2 w1.heap.size 24 (xsK k w1.heap.size ws 0)) := Lib.hid (by rw [hW2]; exact Box.new _ _ _)
      have X2 := Lib.hid (X1.out.step hb2)
      have HB2 := Lib.hid (bt HB1.out hb2)
      have HS2 := Lib.hid (HStr.out.below hb2)
      obtain ⟨c1, c2, c3, c4⟩ := HT.out.below HB1.out k (by omega)
      have hl2 : 0 < w1.heap.size := by have := HB1.out.size; omega
      have HNum := Lib.hid (fun W => numbersI (opWord k) (regT k) (argT k) (fixT k) w1.heap.size W)
      have HPC := Lib.hid (places_cnt (k : Int) w1.heap.size)
      have hc2 := cntN_le (k : Int)
      have HW2 := Lib.hid hW2
      have HPS := Lib.hid (fun j (hj : j < cntN (k : Int)) => xsK_place (k : Int) w1.heap.size j hj)
      have HXS : Hid (∀ j u, j < cntN (k : Int) → ∀ q, (placesL (regT k) (argT k) w1.heap.size).getD j ⟨0, 0, none⟩ = ⟨w1.heap.size, q, none⟩ → u = numV (ws.getD (1 + j) ByteArray.empty) → xsK k w1.heap.size ws (j + 1) = (xsK k w1.heap.size ws j).setIfInBounds q (.int .i64 u)) := Lib.hid (fun j u _ q hq hu => by rw [xsK, hq, hu])
      have HEnd := Lib.hid (xsK_end (k : Int) w1.heap.size ws)
      have HVal := Lib.hid (fun W h => valid (k : Int) (insR k ws) (insA k ws) W h)
      generalize placesL (regT k) (argT k) w1.heap.size = ps at HNum HPC HPS HXS
      generalize opWord k = sw at c1 HNum
      generalize regT (k : Int) = rr at c2 HNum
      generalize argT (k : Int) = aa at c3 HNum
      generalize fixT (k : Int) = ff at c4 HNum
      have hsz1 : w.heap.size < w1.heap.size := X1.out.lt
      clear hW2 hb2
      go_wp2_with fail
      rw [← HW2.out]
      refine (HNum.out W2).mono ?_
      rintro e w3 ⟨PA, pn, pc, rfl, hpl, HPtr, hb⟩
      have hpc : pn = cntN (k : Int) := by rw [← hpl]; exact HPC.out
      have hsz2 : W2.heap.size = w1.heap.size + 1 := by rw [HW2.out]; simp
      have HPtr2 := Lib.hid (HPtr.out.wide (Nat.le_of_eq hsz2.symm))
      have hp2 : pn ≤ 2 := by omega
      have HPn := Lib.hid hpc
      have HPl := Lib.hid hpl
      have HB3 := Lib.hid (bt HB2.out hb)
      have HB13 : Hid (Below w1.heap.size w1 w3) := Lib.hid ((show Below w1.heap.size w1 W2 by rw [HW2.out]; exact alloc_below _ _).trans (hb.mono (by omega)))
      have Y3 := Lib.hid (Y2.out.step hb)
      have hsz3 : w1.heap.size < w3.heap.size := Y3.out.lt
      clear hb hpl HPtr HNum HPC X2 HB2 HS2 c1 c2 c3 c4 hl2 hsz2 hpc hc2 HW2 Y2 hlook hc0
      clear g0 g1 g2 gn0 gn1 gn2
      by_cases hcnt : n = 1 + pn
      · have q1 : ((n : Int) != 1 + (pn : Int)) = false := by rw [bne_eq_false_iff_eq]; omega
        have hnc : (n : Int) = 1 + (pn : Int) := by omega
        have HWl : Hid (ws.length = 1 + pn) := Lib.hid (by have := HN4.out; omega)
        have HNC := Lib.hid hcnt
        clear hcnt hnc

        go_wp2
        go_loopw [47] (fun i wr => ∃ j : Nat, j ≤ pn ∧ i = .int .i64 j ∧ Hid (Box wr w1.heap.size 24 (xsK k w1.heap.size ws j)) ∧ Hid (∀ i, i < j → natW (ws.getD (1 + i) ByteArray.empty) = true) ∧ Hid (Btw w1.heap.size (w1.heap.size + 1) w3 wr)) (fun i _ => pn - (intOf i).toNat)
        case atStart => exact ⟨0, Nat.zero_le _, rfl, Y3, Lib.hid (fun i hi => by omega), Lib.hid (Btw.refl _ _ _)⟩
        case round =>
          clear Y3
          obtain ⟨j, hj, rfl, HY, HAll, HBt⟩ := hrel
          have HBr : Hid (Below w1.heap.size w1 wr) := Lib.hid (HB13.out.trans (HBt.out.below (by omega)))
          have XR : Hid (Box wr w.heap.size 24 #[.int .i64 0, .int .i64 0, .int .i64 0]) := Lib.hid (X1.out.below HBr.out hsz1)
          have HBw : Hid (Below w.heap.size w wr) := Lib.hid (HB1.out.trans (HBr.out.mono HB1.out.size))
          by_cases hlt : j < pn
          · have hi : (j : Int) < (pn : Int) := by omega
            obtain ⟨g, hg, hPA, hcp⟩ := HPtr2.out j (by rw [HPl.out]; exact hlt)
            obtain ⟨q, hq3, hq⟩ := HPS.out j (by rw [← HPn.out]; exact hlt)
            have hcp2 := HBt.out.cell hcp (.inr hg)
            rw [hq] at hcp2
            subst hPA
            obtain ⟨b2, off2, hA2, hcw⟩ := (HStr.out.below HBr.out) (1 + j) (by rw [HL.out]; have := HNC.out; omega)
            obtain ⟨rfl, rfl⟩ : b = b2 ∧ off = off2 := by injection hA2 with e; injection e with e1 e2; exact ⟨e1, e2⟩
            rw [take4_getD _ _ (by omega)] at hcw
            have hmem : ws.getD (1 + j) ByteArray.empty ∈ ws := by
              rw [List.getD_eq_getElem?_getD, List.getElem?_eq_getElem (by rw [HWl.out]; omega), Option.getD_some]
              exact List.getElem_mem _
            have hxs := HSz.out _ hmem
            obtain ⟨x, hx⟩ : ∃ x, ws.getD (1 + j) ByteArray.empty = x := ⟨_, rfl⟩
            rw [hx] at hcw hxs
            have HX1 := Lib.hid (fun u => HXS.out j u (by rw [← HPn.out]; exact hlt) q hq)
            have hcx : ∃ u, (xsK k w1.heap.size ws j)[q]? = some u := ⟨_, Array.getElem?_eq_getElem (by rw [xsK_size]; exact hq3)⟩
            obtain ⟨u0, hu0⟩ := hcx
            have y0 := HY.out.cell q hu0
            have yn0 := HY.out.frozen q
            have HNat := Lib.hid (fun W => naturalOf x W (by unfold maxLen; omega))
            have hidx : 1 + (j : Int) < (n : Int) := by have := HNC.out; omega
            have HNw : Hid (natW (ws.getD (1 + j) ByteArray.empty) = natL x.data.toList) := Lib.hid (by rw [hx]; rfl)
            have HNv : Hid (numV (ws.getD (1 + j) ByteArray.empty) = natV x.data.toList) := Lib.hid (by rw [hx]; rfl)
            clear hx
            clear hcp hq hmem hg hA2 hu0
            cases hb : natL x.data.toList with
            | false =>
              rw [hb] at HNat
              have HF : Hid (R = ((0, 0, 0), false)) := Lib.hid (by
                rw [HR.out]
                exact rdW_no HOp.out (fun h => not_all (i := j) (by rw [HNw.out, hb]) (by rw [HWl.out]; omega) h.2.1))
              generalize natV x.data.toList = nv at HNat
              clear hb HNv HX1 y0 yn0
              have g0 := XR.out.cell 0 rfl
              have g1 := XR.out.cell 1 rfl
              have g2 := XR.out.cell 2 rfl
              have gn0 := XR.out.frozen 0
              have gn1 := XR.out.frozen 1
              have gn2 := XR.out.frozen 2
              go_wp2_with (go_at_call 52; refine (HNat.out _).mono ?_; rintro e w' ⟨rfl, rfl⟩)
              have HRes := Lib.hid (((XR.out.set 0 (.int .i64 0)).set 1 (.int .i64 0)).set 2 (.int .i64 0))
              refine bodyPost_ret (v := .tuple #[.agg #[.int .i64 0, .int .i64 0, .int .i64 0], .bool false]) (by simp [results, Tryd.results31, go_sem, HRes.out.cell 0 rfl, HRes.out.cell 1 rfl, HRes.out.cell 2 rfl]) rfl ?_
              exact ⟨by rw [HF.out], ((HBw.out.setCell (Nat.le_refl _) _).setCell (Nat.le_refl _) _).setCell (Nat.le_refl _) _⟩
            | true =>
              rw [hb] at HNat
              have HAll2 : Hid (∀ i, i < j + 1 → natW (ws.getD (1 + i) ByteArray.empty) = true) := Lib.hid (fun i hi => by
                rcases Nat.lt_or_eq_of_le (Nat.lt_succ_iff.1 hi) with h | rfl
                · exact HAll.out i h
                · rw [HNw.out, hb])
              generalize natV x.data.toList = nv at HNat HNv
              clear hb
              have HX2 := Lib.hid (HX1.out nv HNv.out.symm)
              go_wp2_with (go_at_call 52; refine (HNat.out _).mono ?_; rintro e w' ⟨rfl, rfl⟩)
              go_roundw
              case rel => exact ⟨j + 1, by omega, by go_num, Lib.hid (by rw [HX2.out]; exact HY.out.set q _), HAll2, Lib.hid (HBt.out.setCell (Nat.le_refl _) (Nat.lt_succ_self _) _)⟩
              case measure => simp [intOf]; omega
          · obtain rfl : j = pn := by omega
            have hi : ¬ (j : Int) < (j : Int) := by omega
            have HYe : Hid (Box wr w1.heap.size 24 #[.int .i64 k, .int .i64 (insR k ws), .int .i64 (insA k ws)]) := Lib.hid (by rw [← HEnd.out, ← HPn.out]; exact HY.out)
            have HC := Lib.hid (And.intro (show ws.length = 1 + cntN (k : Int) by rw [HWl.out, HPn.out]) (all_upto HAll.out HWl.out))
            have HYes := Lib.hid (fun h => rdW_yes HOp.out ⟨HC.out.1, HC.out.2, h⟩)
            have HNo := Lib.hid (fun (h : okIns k (insR k ws) (insA k ws) = false) => rdW_no (ws := ws) HOp.out (fun q => absurd q.2.2 (by rw [h]; decide)))
            generalize insR k ws = ir at HYe HYes HNo HVal
            generalize insA k ws = ia at HYe HYes HNo HVal
            have y0 := HYe.out.cell 0 rfl
            have y1 := HYe.out.cell 1 rfl
            have y2 := HYe.out.cell 2 rfl
            cases hok : okIns k ir ia with
            | false =>
              rw [hok] at HVal
              have HF : Hid (R = ((0, 0, 0), false)) := Lib.hid (by rw [HR.out]; exact HNo.out hok)
              clear hok HYes HNo
              go_wp2_with fail
              refine (HVal.out _ (HT.out.below HBw.out)).mono ?_
              rintro e w4 ⟨rfl, hb⟩
              have HB4 := Lib.hid (bt HBw.out hb)
              have X4 := Lib.hid (XR.out.step hb)
              clear hb y0 y1 y2
              have g0 := X4.out.cell 0 rfl
              have g1 := X4.out.cell 1 rfl
              have g2 := X4.out.cell 2 rfl
              have gn0 := X4.out.frozen 0
              have gn1 := X4.out.frozen 1
              have gn2 := X4.out.frozen 2
              go_wp2
              have HRes := Lib.hid (((X4.out.set 0 (.int .i64 0)).set 1 (.int .i64 0)).set 2 (.int .i64 0))
              refine bodyPost_ret (v := .tuple #[.agg #[.int .i64 0, .int .i64 0, .int .i64 0], .bool false]) (by simp [results, Tryd.results31, go_sem, HRes.out.cell 0 rfl, HRes.out.cell 1 rfl, HRes.out.cell 2 rfl]) rfl ?_
              exact ⟨by rw [HF.out], ((HB4.out.setCell (Nat.le_refl _) _).setCell (Nat.le_refl _) _).setCell (Nat.le_refl _) _⟩
            | true =>
              rw [hok] at HVal
              have HF : Hid (R = (((k : Int), ir, ia), true)) := Lib.hid (by rw [HR.out]; exact HYes.out hok)
              clear hok HYes HNo
              go_wp2_with fail
              refine (HVal.out _ (HT.out.below HBw.out)).mono ?_
              rintro e w4 ⟨rfl, hb⟩
              have HB4 := Lib.hid (bt HBw.out hb)
              have X4 := Lib.hid (XR.out.step hb)
              have Y4 := Lib.hid (HYe.out.step hb)
              clear hb y0 y1 y2
              have g0 := X4.out.cell 0 rfl
              have g1 := X4.out.cell 1 rfl
              have g2 := X4.out.cell 2 rfl
              have gn0 := X4.out.frozen 0
              have gn1 := X4.out.frozen 1
              have gn2 := X4.out.frozen 2
              have y0 := Y4.out.cell 0 rfl
              have y1 := Y4.out.cell 1 rfl
              have y2 := Y4.out.cell 2 rfl
              go_wp2
              have HRes := Lib.hid (((X4.out.set 0 (.int .i64 k)).set 1 (.int .i64 ir)).set 2 (.int .i64 ia))
              refine bodyPost_ret (v := .tuple #[.agg #[.int .i64 k, .int .i64 ir, .int .i64 ia], .bool true]) (by simp [results, Tryd.results31, go_sem, HRes.out.cell 0 rfl, HRes.out.cell 1 rfl, HRes.out.cell 2 rfl]) rfl ?_
              exact ⟨by rw [HF.out], ((HB4.out.setCell (Nat.le_refl _) _).setCell (Nat.le_refl _) _).setCell (Nat.le_refl _) _⟩
      · have q1 : ((n : Int) != 1 + (pn : Int)) = true := by rw [bne_iff_ne]; omega
        have HF : Hid (R = ((0, 0, 0), false)) := Lib.hid (by
          rw [HR.out]
          exact rdW_no HOp.out (fun h => hcnt (by have h1 := h.1; have h2 := HN4.out; have h3 := HPn.out; omega)))
        have XR : Hid (Box w3 w.heap.size 24 #[.int .i64 0, .int .i64 0, .int .i64 0]) := Lib.hid (X1.out.below HB13.out hsz1)
        clear hcnt
        have g0 := XR.out.cell 0 rfl
        have g1 := XR.out.cell 1 rfl
        have g2 := XR.out.cell 2 rfl
        have gn0 := XR.out.frozen 0
        have gn1 := XR.out.frozen 1
        have gn2 := XR.out.frozen 2
        go_wp2
        have HRes := Lib.hid (((XR.out.set 0 (.int .i64 0)).set 1 (.int .i64 0)).set 2 (.int .i64 0))
        refine bodyPost_ret (v := .tuple #[.agg #[.int .i64 0, .int .i64 0, .int .i64 0], .bool false]) (by simp [results, Tryd.results31, go_sem, HRes.out.cell 0 rfl, HRes.out.cell 1 rfl, HRes.out.cell 2 rfl]) rfl ?_
        exact ⟨by rw [HF.out], ((HB3.out.setCell (Nat.le_refl _) _).setCell (Nat.le_refl _) _).setCell (Nat.le_refl _) _⟩
end Go.Proofs.YtcchhbkbnbphhaaDoor
