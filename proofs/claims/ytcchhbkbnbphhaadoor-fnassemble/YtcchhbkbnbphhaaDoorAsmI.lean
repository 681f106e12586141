/- The lines' instructions, one after the other: the iterator that the program's Assemble ranges over. -/
import Derived.Test.YtcchhbkbnbphhaaDoorAsm
import Derived.RangeFuncNested
import Derived.RangeFuncBound
import Derived.RangeFuncCalls
import Derived.RangeFuncLeaves
import Derived.Shelf.Abstract
import Derived.Shelf.RegionOpen
import Derived.OwnWalkIn
import Derived.TacticsInMore
import Derived.LoopNIn
import Derived.LoopIn
namespace Go.Proofs.YtcchhbkbnbphhaaDoor
open Go.RowKit Go.Shelf

attribute [local go_sem] Oper.semAt_some

abbrev InsX := { r : (Int × Int × Int) × Bool // r.2 = true → okIns r.1.1 r.1.2.1 r.1.2.2 = true }
def rdX (x : ByteArray) : InsX := ⟨rdF x, fun h => rd_ok (x := x) (by rw [← h])⟩
def insV (r : InsX) : Array Value := #[.agg #[.int .i64 r.1.1.1, .int .i64 r.1.1.2.1, .int .i64 r.1.1.2.2], .bool r.1.2]
def KpM (n₀ : Nat) (A B : World) : Prop := Below n₀ A B ∧ KeepsWalks A B
theorem KpM.t {n₀ : Nat} {A B C : World} (h : KpM n₀ A B) (k : KpM n₀ B C) : KpM n₀ A C := ⟨h.1.trans k.1, h.2.trans k.2⟩
theorem KpM.b {n₀ : Nat} {w : World} (hn : n₀ ≤ w.heap.size) (W : World) (l : Nat) (o o' : Obj) (hl : w.heap.size ≤ l) (h : W.heap[l]? = some o) (hc : o.isCells = false) (hw : o.isWalk = false) : KpM n₀ W (W.putObj l o') :=
  ⟨belowK_b (w := w) hn W l o o' hl h hc hw, walksK_b (w := w) W l o o' hl h hc hw⟩
theorem VocM.kept {w w' : World} {b : Nat} {l : List (ByteArray × Int)} (h : VocM w b l) (k : KeepsWalks w w') : VocM w' b l := by
  obtain ⟨es, clock, h1, h2⟩ := h
  exact ⟨es, clock, k.same b _ h1 rfl, h2⟩
theorem grown_of {w w' : World} (h : Below w.heap.size w w') : w.grownBy w' none := ⟨h.os, h.tape, h.output, h.size, fun k hk _ => h.block k hk⟩
def insU (ss : List ByteArray) (k : Nat) : List InsX := (List.range k).map fun j => rdX (ss.getD j ByteArray.empty)
theorem insU_len (ss : List ByteArray) (k : Nat) : (insU ss k).length = k := by simp [insU]
theorem insU_succ (ss : List ByteArray) (k : Nat) : insU ss (k + 1) = insU ss k ++ [rdX (ss.getD k ByteArray.empty)] := by simp [insU, List.range_succ]

set_option maxHeartbeats 8000000 in
set_option maxRecDepth 100000 in
theorem linesI (n l Bs len cap : Nat) (hn : 2 ≤ n) (A : Option Addr) (ss : List ByteArray) (w : World) (hl : ss.length = len) (hx : ∀ x ∈ ss, x.size ≤ 1048576) (hm : len ≤ 1048576) (hS : StrL w A ss) (ht : OpsT w) (J Jx : List InsX → World → Prop)
    (W : World) (hJ : AbidesFrom W.heap.size J)
    (hY : ∀ pre x W, J pre W → pre.length < len → YieldAt Fence.wide (n - 1) Tryd.prog l (insV x) W fun e W' =>
      (e = .returned (.bool true) ∧ J (pre ++ [x]) W' ∧ KpM w.heap.size W W') ∨ (e = .returned (.bool false) ∧ Jx (pre ++ [x]) W'))
    (hB : Below w.heap.size w W) (hBs : W.cell? ⟨Bs, 0, none⟩ = some (.slice A len cap)) (h0 : J [] W) :
    CallsIn Fence.wide n Tryd.prog 53 #[.func (.yield l) #[] #[], .pointer (some ⟨Bs, 0, none⟩)] W fun e W' => (∃ v, e = .returned v) ∧
      ((∃ ys, ys = insU ss len ∧ J ys W') ∨ (∃ pre, (∃ k, k ≤ len ∧ pre = insU ss k) ∧ Jx pre W')) := by
  refine callsIn_of_wp Tryd.func53 rfl trivial ?_ rfl
  simp only [Tryd.ntmps53, List.size_toArray, List.length_cons, List.length_nil, Nat.reduceAdd, Nat.reduceSub, Array.replicate_succ, Array.replicate_zero, List.push_toArray, List.append_toArray, List.nil_append, List.cons_append]
  have HL := Lib.hid hl
  have HX := Lib.hid hx
  have HS := Lib.hid hS
  have HT := Lib.hid ht
  have HY := Lib.hid hY
  have HJ := Lib.hid hJ
  clear hl hx hS ht hY hJ
  gi_wp2
  refine ⟨trivial, fun _ => by omega, ?_⟩
  refine (callsIn_wide.2 (newVoc W (HT.out.below hB))).mono ?_
  rintro e w1 ⟨m, rfl, HV, hb⟩
  have hBs1 := (hb.cell (p := ⟨Bs, 0, none⟩) (cell_lt hBs)).trans hBs
  have HJ1 : Hid (J [] w1) := Lib.hid (HJ.out [] W w1 none h0 (grown_of hb) (fun r e => by cases e))
  have HB1 := Lib.hid (hB.trans (hb.mono hB.size))
  have HsW : Hid (W.heap.size ≤ w1.heap.size) := Lib.hid hb.size
  clear hb hBs h0 hB
  gi_wp2
  gi_loopw [9] (fun i wr => ∃ k : Nat, k ≤ len ∧ i = .int .i64 (k : Int) ∧ Hid (J (insU ss k) wr) ∧ Hid (Below w.heap.size w wr) ∧ Hid (VocM wr m (vocL 22)) ∧ Hid (W.heap.size ≤ wr.heap.size)) (fun i _ => len - (intOf i).toNat)
  case atStart => exact ⟨0, Nat.zero_le _, rfl, HJ1, HB1, HV, HsW⟩
  case round =>
    clear HJ1 HB1 HV hBs1 HsW
    obtain ⟨k, hk, rfl, HJk, HB, HV, HsW⟩ := hrel
    by_cases hlt : k < len
    · have i1 : (k : Int) < (len : Int) := by omega
      obtain ⟨b, off, hA, hc⟩ := (HS.out.below HB.out) k (by rw [HL.out]; exact hlt)
      subst hA
      have hmem : ss.getD k ByteArray.empty ∈ ss := by
        rw [List.getD_eq_getElem?_getD, List.getElem?_eq_getElem (by rw [HL.out]; exact hlt), Option.getD_some]; exact List.getElem_mem _
      have hxs := HX.out _ hmem
      have HU := Lib.hid (insU_succ ss k)
      clear hmem
      generalize ss.getD k ByteArray.empty = x at hc hxs HU
      have HC : Hid (∀ W, OpsT W → VocM W m (vocL 22) → Calls Tryd.prog 31 #[.map (some m), .string x] W (GivesX (rdX x).1 W)) := Lib.hid (fun W t v => readI m x W (by omega) t v)
      generalize hr : rdX x = r at HC HU
      clear hr
      obtain ⟨⟨⟨a, bb, cc⟩, ok⟩, hok⟩ := r
      gi_wp2
      refine ⟨trivial, fun _ => by omega, ?_⟩
      refine (callsIn_wide.2 (HC.out wr (HT.out.below HB.out) HV.out)).mono ?_
      rintro e w2 ⟨rfl, hb⟩
      have HJ2 : Hid (J (insU ss k) w2) := Lib.hid (HJ.out _ wr w2 none HJk.out (grown_of hb) (fun r e => by cases e))
      have HB2 := Lib.hid (HB.out.trans (hb.mono HB.out.size))
      have HV2 := Lib.hid (HV.out.below hb)
      have HsW2 : Hid (W.heap.size ≤ w2.heap.size) := Lib.hid (Nat.le_trans HsW.out hb.size)
      clear hb HC
      obtain ⟨fn, tmps, assign, body, hy, hR⟩ := HY.out (insU ss k) ⟨((a, bb, cc), ok), hok⟩ w2 HJ2.out (by rw [insU_len]; exact hlt)
      dsimp only [insV] at hy
      have HR := Lib.hid hR
      clear hR
      gi_wp2
      refine ⟨fun _ => by omega, ?_⟩
      refine HR.out.mono ?_
      rintro e w3 (⟨rfl, hJ3, hk3⟩ | ⟨rfl, hJx3⟩)
      · have HJ3 : Hid (J (insU ss (k + 1)) w3) := Lib.hid (by rw [HU.out]; exact hJ3)
        have HB3 := Lib.hid (HB2.out.trans hk3.1)
        have HV3 := Lib.hid (HV2.out.kept hk3.2)
        have HsW3 : Hid (W.heap.size ≤ w3.heap.size) := Lib.hid (Nat.le_trans HsW2.out hk3.2.size)
        clear hJ3 hk3 hy
        gi_wp2
        go_roundw
        case rel => exact ⟨k + 1, by omega, by go_num, HJ3, HB3, HV3, HsW3⟩
        case measure => simp [intOf]; omega
      · have HJx3 : Hid (Jx (insU ss (k + 1)) w3) := Lib.hid (by rw [HU.out]; exact hJx3)
        clear hJx3 hy
        gi_wp2
        refine bodyPost_ret (results_none rfl _ _ _) rfl ?_
        exact ⟨⟨_, rfl⟩, .inr ⟨_, ⟨k + 1, by omega, rfl⟩, HJx3.out⟩⟩
    · obtain rfl : k = len := by omega
      gi_wp2
      go_end0
      exact ⟨⟨_, rfl⟩, .inl ⟨_, rfl, HJk.out⟩⟩

set_option maxRecDepth 100000 in
set_option maxHeartbeats 1000000 in
theorem linesOf (A : Option Addr) (len cap : Nat) (w : World) : Calls Tryd.prog 39 #[.slice A len cap] w fun e w' => e = .returned (.func (.func 53) #[] #[.pointer (some ⟨w.heap.size, 0, none⟩)]) ∧ w' = w.alloc (.cells #[.slice A len cap] 40) := by
  go_enter Tryd.func39, Tryd.ntmps39
  go_wp2
  go_ret
  exact ⟨rfl, rfl⟩
set_option maxRecDepth 100000 in
theorem lines_stops (n Bs len cap : Nat) (hn : 2 ≤ n) (A : Option Addr) (ss : List ByteArray) (w w0 : World) (hl : ss.length = len) (hx : ∀ x ∈ ss, x.size ≤ 1048576) (hm : len ≤ 1048576) (hS : StrL w A ss) (ht : OpsT w)
    (hb : Below w.heap.size w w0) (hBs : w0.cell? ⟨Bs, 0, none⟩ = some (.slice A len cap)) :
    SeqStopsK Fence.wide n Tryd.prog 53 #[.pointer (some ⟨Bs, 0, none⟩)] insV (KpM w.heap.size) (fun ys => ys = insU ss len) (fun pre => ∃ k, k ≤ len ∧ pre = insU ss k) len w0 := fun l J Jx W hW hJ _ hY h0 =>
  linesI n l Bs len cap hn A ss w hl hx hm hS ht J Jx W hJ hY (hb.trans (hW.mono hb.size)) ((hW.cell (p := ⟨Bs, 0, none⟩) (cell_lt hBs)).trans hBs) h0
end Go.Proofs.YtcchhbkbnbphhaaDoor
