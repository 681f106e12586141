/- Texts of this claim, one behind the other: CodeMath, DrawInstr, InstrLaws, ChipCycle, ChipWipe, NewFlash, FlashOfSpec, AsmLaws, CycleOf, MemMath, MemOk, CloneI, BusOf, ChipRead, BusDev, FlashWrite, FlashWrite2, FlashWrite3. -/
import Derived.Test.YtcchhbkbnbphhaaDoorRead
import Derived.Test.YtcchhbkbnbphhaaDoorTxt4
import Derived.ProofKit
import Derived.Laws.StructEq
import Derived.Test.YtcchhbkbnbphhaaDoorChipFlash
import Derived.Test.YtcchhbkbnbphhaaDoorAsmA
import Derived.Laws.OwnMore
import Derived.StillTailTactics
import Derived.Lib.SliceRun
import Derived.Deep.RegionHeld3
import Derived.Handy
import Derived.Test.YtcchhbkbnbphhaaDoorM4
/- What is read out of an instruction's own text and bytes. Nothing here walks. -/
namespace Go.Proofs.YtcchhbkbnbphhaaDoor
open Go.RowKit

def okWd (l : List UInt8) : Bool := !l.isEmpty && l.all (fun c => c != 32)
theorem okWd_ne {l : List UInt8} (h : okWd l = true) : l ≠ [] ∧ ∀ k : Nat, l[k]? ≠ some 32 := by
  simp only [okWd, Bool.and_eq_true] at h
  refine ⟨fun e => by simp [e] at h, fun k hk => ?_⟩
  have := List.all_eq_true.1 h.2 32 (List.mem_of_getElem? hk)
  simp at this
theorem words_last {l : List UInt8} (h : okWd l = true) : wordsA [] l = [l] := by
  obtain ⟨h1, h2⟩ := okWd_ne h
  rw [wordsA_none l [] h2]; simp [h1]
theorem words_app {l r : List UInt8} (h : okWd l = true) : wordsA [] (l ++ 32 :: r) = l :: wordsA [] r := by
  obtain ⟨h1, h2⟩ := okWd_ne h
  rw [wordsA_some (l ++ 32 :: r) [] l.length (by simp) (fun k hk => by rw [List.getElem?_append_left hk]; exact h2 k)]
  simp [h1]
theorem opWords_ok : (List.range 22).all (fun k => okWd (opWord k).data.toList && decide (opOf (opWord k) = some (k : Int))) = true := by kernel_rfl
theorem nums_ok : (List.range 4096).all (fun n => okWd (decF 4 n) && (natL (decF 4 n) && (numOf (decF 4 n) == n))) = true := by kernel_rfl
theorem opWord_ok (k : Nat) (h : k < 22) : okWd (opWord k).data.toList = true ∧ opOf (opWord k) = some (k : Int) := by
  have := List.all_eq_true.1 opWords_ok k (List.mem_range.2 h)
  simpa using this
theorem num_ok (n : Int) (h0 : 0 ≤ n) (h1 : n ≤ 4095) : okWd (num n).data.toList = true ∧ natW (num n) = true ∧ numV (num n) = n := by
  have e : num n = bs (decF 4 n.toNat) := by unfold num; rw [dec_digits 3 n.toNat (by omega)]
  have := List.all_eq_true.1 nums_ok n.toNat (List.mem_range.2 (by omega))
  simp only [Bool.and_eq_true, beq_iff_eq] at this
  obtain ⟨h2, h3, h4⟩ := this
  rw [e]
  unfold natW numV natV
  rw [bs_toList]
  refine ⟨h2, h3, ?_⟩
  rw [if_pos h3, h4]; omega
theorem sp_app (a b : ByteArray) : a ++ ((⟨#[32]⟩ : ByteArray) ++ b) = bs (a.data.toList ++ 32 :: b.data.toList) := by
  have h : ((⟨#[32]⟩ : ByteArray)) = bs [32] := rfl
  conv => lhs; rw [← bs_of a, ← bs_of b, h, bs_app, bs_app]
  rfl
theorem words_one {a : ByteArray} (h : okWd a.data.toList = true) : wordsB a = [a] := by
  unfold wordsB; rw [words_last h]; simp [bs_of]
theorem words_two {a b : ByteArray} (h : okWd a.data.toList = true) (k : okWd b.data.toList = true) : wordsB (a ++ ((⟨#[32]⟩ : ByteArray) ++ b)) = [a, b] := by
  rw [sp_app, wordsB_bs, words_app h, words_last k]; simp [bs_of]
theorem words_three {a b c : ByteArray} (h : okWd a.data.toList = true) (k : okWd b.data.toList = true) (m : okWd c.data.toList = true) : wordsB (a ++ ((⟨#[32]⟩ : ByteArray) ++ b) ++ ((⟨#[32]⟩ : ByteArray) ++ c)) = [a, b, c] := by
  rw [sp_app a b, sp_app, bs_toList, wordsB_bs, List.append_assoc, List.cons_append, words_app h, words_app k, words_last m]; simp [bs_of]
theorem rd_txt {op reg arg : Int} (h : okIns op reg arg = true) : rdF (txtB op reg arg) = ((op, reg, arg), true) := by
  obtain ⟨h1, h2, h3, h4, h5, h6⟩ := okIns_iff h
  obtain ⟨k, rfl⟩ : ∃ k : Nat, op = k := ⟨op.toNat, by omega⟩
  have hr := regT_range (k : Int)
  have ha := argT_range (k : Int)
  obtain ⟨w1, w2⟩ := opWord_ok k (by omega)
  obtain ⟨r1, r2, r3⟩ := num_ok reg h3 (by omega)
  obtain ⟨a1, a2, a3⟩ := num_ok arg h5 (by omega)
  unfold rdF txtB valsL
  rw [Int.toNat_natCast]
  by_cases g1 : 0 < regT (k : Int) <;> by_cases g2 : 0 < argT (k : Int)
  · rw [if_pos g1, if_pos g2]
    show rdW (wordsB (opWord k ++ ((⟨#[32]⟩ : ByteArray) ++ num reg) ++ ((⟨#[32]⟩ : ByteArray) ++ num arg))) = _
    rw [words_three w1 r1 a1]
    have e1 : insR k [opWord k, num reg, num arg] = reg := by unfold insR; rw [if_pos g1]; exact r3
    have e3 : cntN (k : Int) = 2 := by unfold cntN; rw [if_pos g1, if_pos g2]
    have e2 : insA k [opWord k, num reg, num arg] = arg := by unfold insA; rw [if_pos g2, e3]; exact a3
    rw [rdW_yes (ws := [opWord k, num reg, num arg]) (op := k) w2 ⟨by rw [e3]; rfl, by simp [r2, a2], by rw [e1, e2]; exact h⟩, e1, e2]
  · rw [if_pos g1, if_neg g2]
    show rdW (wordsB (opWord k ++ ((⟨#[32]⟩ : ByteArray) ++ num reg))) = _
    rw [words_two w1 r1]
    have e1 : insR k [opWord k, num reg] = reg := by unfold insR; rw [if_pos g1]; exact r3
    have e3 : cntN (k : Int) = 1 := by unfold cntN; rw [if_pos g1, if_neg g2]
    have e2 : insA k [opWord k, num reg] = arg := by unfold insA; rw [if_neg g2]; omega
    rw [rdW_yes (ws := [opWord k, num reg]) (op := k) w2 ⟨by rw [e3]; rfl, by simp [r2], by rw [e1, e2]; exact h⟩, e1, e2]
  · rw [if_neg g1, if_pos g2]
    show rdW (wordsB (opWord k ++ ((⟨#[32]⟩ : ByteArray) ++ num arg))) = _
    rw [words_two w1 a1]
    have e1 : insR k [opWord k, num arg] = reg := by unfold insR; rw [if_neg g1]; omega
    have e3 : cntN (k : Int) = 1 := by unfold cntN; rw [if_neg g1, if_pos g2]
    have e2 : insA k [opWord k, num arg] = arg := by unfold insA; rw [if_pos g2, e3]; exact a3
    rw [rdW_yes (ws := [opWord k, num arg]) (op := k) w2 ⟨by rw [e3]; rfl, by simp [a2], by rw [e1, e2]; exact h⟩, e1, e2]
  · rw [if_neg g1, if_neg g2]
    show rdW (wordsB (opWord k)) = _
    rw [words_one w1]
    have e1 : insR k [opWord k] = reg := by unfold insR; rw [if_neg g1]; omega
    have e3 : cntN (k : Int) = 0 := by unfold cntN; rw [if_neg g1, if_neg g2]
    have e2 : insA k [opWord k] = arg := by unfold insA; rw [if_neg g2]; omega
    rw [rdW_yes (ws := [opWord k]) (op := k) w2 ⟨by rw [e3]; rfl, by simp, by rw [e1, e2]; exact h⟩, e1, e2]
theorem arg_of_len (op : Int) (h0 : 0 ≤ op ∧ op ≤ 21) : (lenT op = 1 → argT op = 0) ∧ (lenT op = 2 → argT op ≤ 255) ∧ (lenT op = 3 → argT op ≤ 4095) := by
  unfold lenT argT
  refine ⟨?_, ?_, ?_⟩ <;> (repeat' split) <;> omega
theorem txt_size {op reg arg : Int} (h : okIns op reg arg = true) : (txtB op reg arg).size ≤ 65536 := by
  obtain ⟨h1, h2, h3, h4, h5, h6⟩ := okIns_iff h
  have hr := regT_range op
  have ha := argT_range op
  have w := opWord_len op.toNat
  have n1 := num_len reg (by omega)
  have n2 := num_len arg (by omega)
  have sp : ∀ a b : ByteArray, (a ++ ((⟨#[32]⟩ : ByteArray) ++ b)).size = a.size + (1 + b.size) := fun a b => by rw [ByteArray.size_append, ByteArray.size_append]; rfl
  unfold txtB valsL
  by_cases g1 : 0 < regT op <;> by_cases g2 : 0 < argT op
  · rw [if_pos g1, if_pos g2]
    show (opWord op.toNat ++ ((⟨#[32]⟩ : ByteArray) ++ num reg) ++ ((⟨#[32]⟩ : ByteArray) ++ num arg)).size ≤ 65536
    rw [sp, sp]; omega
  · rw [if_pos g1, if_neg g2]
    show (opWord op.toNat ++ ((⟨#[32]⟩ : ByteArray) ++ num reg)).size ≤ 65536
    rw [sp]; omega
  · rw [if_neg g1, if_pos g2]
    show (opWord op.toNat ++ ((⟨#[32]⟩ : ByteArray) ++ num arg)).size ≤ 65536
    rw [sp]; omega
  · rw [if_neg g1, if_neg g2]
    show (opWord op.toNat).size ≤ 65536
    omega
end Go.Proofs.YtcchhbkbnbphhaaDoor

/- The source's instruction: a drawn valid one. Written by gen_instr.py. -/
namespace Go.Proofs.YtcchhbkbnbphhaaDoor
open Go.RowKit

theorem btw_all {l r : Nat} {w w' : World} (h : Below w.heap.size w w') : Btw l r w w' := ⟨h.os, h.tape, h.output, h.size, fun k hk _ => h.block k hk⟩
theorem ok_drawn {op reg arg : Nat} (h1 : op < 22) (h2 : (5 ≤ op ∧ op ≤ 14 ∧ reg < 4) ∨ (¬ (5 ≤ op ∧ op ≤ 14) ∧ reg = 0))
    (h3 : (op = 21 ∧ arg < 4) ∨ (op ≠ 21 ∧ lenT op = 2 ∧ arg < 256) ∨ (op ≠ 21 ∧ lenT op = 3 ∧ arg < 4096) ∨ (op ≠ 21 ∧ lenT op = 1 ∧ arg = 0)) : okIns (op : Int) (reg : Int) (arg : Int) = true := by
  have hr : (5 ≤ op ∧ op ≤ 14 → regT op = 3) ∧ 0 ≤ regT op := ⟨fun h => by unfold regT; rw [if_pos (by omega)], (regT_range op).1⟩
  have ha := arg_len (op : Int)
  have h0 := (argT_range (op : Int)).1
  have h21 : op = 21 → argT op = 3 := fun h => by subst h; decide
  unfold okIns
  rw [decide_eq_true_eq]
  refine ⟨by omega, by omega, by omega, ?_, by omega, ?_⟩
  · rcases h2 with h | h
    · rw [hr.1 ⟨h.1, h.2.1⟩]; omega
    · omega
  · rcases h3 with h | h | h | h
    · rw [h21 h.1]; omega
    · rw [ha (by omega), h.2.1]; simp; omega
    · rw [ha (by omega), h.2.1]; simp; omega
    · omega
def GivesIns (b : Nat) (A : Option Addr) (n c : Nat) (zs : List Nat) (K : Nat) (w : World) (e : Ending) (w' : World) : Prop :=
  ∃ op reg arg : Int, e = .returned (.agg #[.int .i64 op, .int .i64 reg, .int .i64 arg]) ∧ okIns op reg arg = true ∧ Hid (Src w' b A n c zs K) ∧ Btw b (b + 1) w w'
theorem btw_low {b : Nat} {w w1 w2 : World} (h : Btw b (b + 1) w w1) (hb : Below w.heap.size w1 w2) : Btw b (b + 1) w w2 :=
  ⟨hb.os.trans h.os, hb.tape.trans h.tape, hb.output.trans h.output, Nat.le_trans h.size hb.size, fun k hk ho => (hb.block k hk).trans (h.block k hk ho)⟩
theorem fin_keep {b D : Nat} {A : Option Addr} {n c : Nat} {zs : List Nat} {K K' : Nat} {w W W' : World} (hb : b < w.heap.size) (_h1 : w.heap.size ≤ D) (hq : Below w.heap.size W W') (S : Src W b A n c zs K') (B : Btw b (b + 1) w W) (hk : K' ≤ K + 9) : Hid (Src W' b A n c zs (K + 9)) ∧ Btw b (b + 1) w W' :=
  ⟨Lib.hid ((S.below hq hb).mono hk), btw_low B hq⟩
theorem four_set {W : World} {D R B : Nat} (u a0 a1 a2 : Value) (h1 : B ≤ D) (h2 : B ≤ R) : Below B W ((((W.setCell ⟨D, 2, none⟩ u).setCell ⟨R, 0, none⟩ a0).setCell ⟨R, 1, none⟩ a1).setCell ⟨R, 2, none⟩ a2) :=
  ((((Below.refl _ _).setCell (p := ⟨D, 2, none⟩) h1 _).setCell (p := ⟨R, 0, none⟩) h2 _).setCell (p := ⟨R, 1, none⟩) h2 _).setCell (p := ⟨R, 2, none⟩) h2 _
theorem three_set {W : World} {R B : Nat} (a0 a1 a2 : Value) (h2 : B ≤ R) : Below B W (((W.setCell ⟨R, 0, none⟩ a0).setCell ⟨R, 1, none⟩ a1).setCell ⟨R, 2, none⟩ a2) :=
  (((Below.refl _ _).setCell (p := ⟨R, 0, none⟩) h2 _).setCell (p := ⟨R, 1, none⟩) h2 _).setCell (p := ⟨R, 2, none⟩) h2 _
set_option maxHeartbeats 8000000 in
set_option maxRecDepth 100000 in
theorem instrDraw (b : Nat) (A : Option Addr) (n c : Nat) (zs : List Nat) (K : Nat) (w : World) (hK : K ≤ 1000) (h : Src w b A n c zs K) : Calls Tryd.prog 22 #[.pointer (some ⟨b, 0, none⟩)] w (GivesIns b A n c zs (K + 9) w) := by
  have hbw := h.lt
  obtain ⟨W0, hW0⟩ : ∃ W0, W0 = w.alloc (.cells #[.int .i64 0, .int .i64 0, .int .i64 0] 24) := ⟨_, rfl⟩
  have hb0 : Below w.heap.size w W0 := by rw [hW0]; exact alloc_below _ _
  have X : Hid (Box W0 w.heap.size 24 #[.int .i64 0, .int .i64 0, .int .i64 0]) := Lib.hid (by rw [hW0]; exact Box.new _ _ _)
  have S : Hid (Src W0 b A n c zs K) := Lib.hid (h.below hb0 hbw)
  have HB : Hid (Btw b (b + 1) w W0) := Lib.hid (btw_all hb0)
  have HW0 := Lib.hid hW0
  have hsz0 : w.heap.size < W0.heap.size := X.out.lt
  clear hW0 hb0 h
  go_enter Tryd.func22, Tryd.ntmps22
  go_wp2_with fail
  rw [← HW0.out]
  refine (srcNext 22 b A n c zs K W0 (by omega) (by omega) (by omega) S.out).mono ?_
  rintro e w1 ⟨v, rfl, hv, S1, hb⟩
  replace HB := Lib.hid (HB.out.trans hb)
  replace X := Lib.hid (X.out.btw hb (.inr (by omega)))
  have hsz1 : w.heap.size < w1.heap.size := X.out.lt
  clear S HW0 hb
  obtain ⟨W2, hW2⟩ : ∃ W2, W2 = w1.alloc (.cells #[.int .i64 (v : Int), .int .i64 0, .int .i64 0] 24) := ⟨_, rfl⟩
  have hb2 : Below w1.heap.size w1 W2 := by rw [hW2]; exact alloc_below _ _
  have Y : Hid (Box W2 w1.heap.size 24 #[.int .i64 (v : Int), .int .i64 0, .int .i64 0]) := Lib.hid (by rw [hW2]; exact Box.new _ _ _)
  replace X := Lib.hid (X.out.step hb2)
  have S : Hid (Src W2 b A n c zs (K + 1)) := Lib.hid (S1.out.below hb2 (by omega))
  replace HB : Hid (Btw b (b + 1) w W2) := Lib.hid (HB.out.trans (btw_all hb2))
  clear hb2 S1
  have HRg := Lib.hid (l07RegA (v : Int))
  have HLn := Lib.hid (l07LengthA (v : Int))
  have y0 := Y.out.cell 0 rfl
  rw [hW2] at y0
  go_wp2_with fail
  rw [← hW2]
  clear hW2 y0
  obtain ⟨D, hD⟩ : ∃ D, D = w1.heap.size := ⟨_, rfl⟩
  rw [← hD] at Y hsz1 ⊢
  clear hD
  have hne1 : ¬ D = w.heap.size := by omega
  have hne2 : ¬ w.heap.size = D := by omega
  refine (HRg.out W2).mono ?_
  rintro e _ ⟨rfl, rfl⟩
  by_cases hr : 5 ≤ v ∧ v ≤ 14
  · rw [show rngB (v : Int) 5 14 = true by unfold rngB; simp; omega]
    go_wp2_with fail
    refine (srcNext 4 b A n c zs (K + 1) _ (by omega) (by omega) (by omega) S.out).mono ?_
    rintro e wrg ⟨rg, rfl, hrg, S9, hb⟩
    replace HB := Lib.hid (HB.out.trans hb)
    replace X := Lib.hid (X.out.btw hb (.inr (by omega)))
    replace Y := Lib.hid (Y.out.btw hb (.inr (by omega)))
    replace S := S9
    clear S9 hb
    have y0 := Y.out.cell 0 rfl
    have y1 := Y.out.cell 1 rfl
    have yz := Y.out.frozen 1
    have i21 : ¬ (v : Int) = 21 := by omega
    obtain ⟨W4, hW4⟩ : ∃ W4, W4 = wrg.setCell ⟨D, 1, none⟩ (.int .i64 (rg : Int)) := ⟨_, rfl⟩
    have k4 : Btw D (D + 1) wrg W4 := by rw [hW4]; exact (Btw.refl D (D + 1) wrg).setCell (p := ⟨D, 1, none⟩) (Nat.le_refl _) (Nat.lt_succ_self _) _
    have q4 : Below w.heap.size wrg W4 := (k4.below (Nat.le_of_lt Y.out.lt)).mono (by omega)
    have Y4 : Hid (Box W4 D 24 #[.int .i64 (v : Int), .int .i64 (rg : Int), .int .i64 0]) := Lib.hid (by rw [hW4]; exact Y.out.set 1 _)
    replace X := Lib.hid (X.out.btw k4 (.inl (by omega)))
    replace S := Lib.hid (S.out.below q4 hbw)
    replace HB := Lib.hid (btw_low HB.out q4)
    replace Y := Y4
    clear Y4 k4 q4
    go_wp2_with fail
    rw [← hW4]
    clear hW4 y0 y1 yz i21
    have h21 : ¬ v = 21 := by omega
    refine (HLn.out _).mono ?_
    rintro e _ ⟨rfl, rfl⟩
    have y0 := Y.out.cell 0 rfl
    have hlen := lenT_range (v : Int)
    rcases (by omega : lenT (v : Int) = 2 ∨ lenT (v : Int) = 3 ∨ lenT (v : Int) = 1) with hl | hl | hl
    · rw [hl]
      go_wp2_with fail
      refine (srcNext 256 b A n c zs (K + 1 + 1) _ (by omega) (by omega) (by omega) S.out).mono ?_
      rintro e wag ⟨ag, rfl, hag, S9, hb⟩
      replace HB := Lib.hid (HB.out.trans hb)
      replace X := Lib.hid (X.out.btw hb (.inr (by omega)))
      replace Y := Lib.hid (Y.out.btw hb (.inr (by omega)))
      replace S := S9
      clear S9 hb
      clear y0
      have y0 := Y.out.cell 0 rfl
      have y1 := Y.out.cell 1 rfl
      have y2 := Y.out.cell 2 rfl
      have yz := Y.out.frozen 2
      have x0 := X.out.cell 0 rfl
      have x1 := X.out.cell 1 rfl
      have x2 := X.out.cell 2 rfl
      have z0 := X.out.frozen 0
      have z1 := X.out.frozen 1
      have z2 := X.out.frozen 2
      have HOk : Hid (okIns (v : Int) (rg : Int) (ag : Int) = true) := Lib.hid (ok_drawn hv (.inl ⟨hr.1, hr.2, hrg⟩) (.inr (.inl ⟨h21, hl, hag⟩)))
      go_wp2
      refine bodyPost_ret (v := .agg #[.int .i64 (v : Int), .int .i64 rg, .int .i64 ag]) (by simp [results, Tryd.results22, go_sem, x0, x1, x2]) rfl ?_
      refine ⟨_, _, _, rfl, HOk.out, ?_⟩
      exact fin_keep (D := D) hbw (by omega) (four_set _ _ _ _ (by omega) (Nat.le_refl _)) S.out HB.out (by omega)
    · rw [hl]
      go_wp2_with fail
      refine (HLn.out _).mono ?_
      rintro e _ ⟨rfl, rfl⟩
      rw [hl]
      go_wp2_with fail
      refine (srcNextBig 4096 b A n c zs (K + 1 + 1) _ (by omega) (by omega) (by omega) S.out).mono ?_
      rintro e wag ⟨ag, rfl, hag, S9, hb⟩
      replace HB := Lib.hid (HB.out.trans hb)
      replace X := Lib.hid (X.out.btw hb (.inr (by omega)))
      replace Y := Lib.hid (Y.out.btw hb (.inr (by omega)))
      replace S := S9
      clear S9 hb
      clear y0
      have y0 := Y.out.cell 0 rfl
      have y1 := Y.out.cell 1 rfl
      have y2 := Y.out.cell 2 rfl
      have yz := Y.out.frozen 2
      have x0 := X.out.cell 0 rfl
      have x1 := X.out.cell 1 rfl
      have x2 := X.out.cell 2 rfl
      have z0 := X.out.frozen 0
      have z1 := X.out.frozen 1
      have z2 := X.out.frozen 2
      have HOk : Hid (okIns (v : Int) (rg : Int) (ag : Int) = true) := Lib.hid (ok_drawn hv (.inl ⟨hr.1, hr.2, hrg⟩) (.inr (.inr (.inl ⟨h21, hl, hag⟩))))
      go_wp2
      refine bodyPost_ret (v := .agg #[.int .i64 (v : Int), .int .i64 rg, .int .i64 ag]) (by simp [results, Tryd.results22, go_sem, x0, x1, x2]) rfl ?_
      refine ⟨_, _, _, rfl, HOk.out, ?_⟩
      exact fin_keep (D := D) hbw (by omega) (four_set _ _ _ _ (by omega) (Nat.le_refl _)) S.out HB.out (by omega)
    · rw [hl]
      go_wp2_with fail
      refine (HLn.out _).mono ?_
      rintro e _ ⟨rfl, rfl⟩
      rw [hl]
      clear y0
      have y0 := Y.out.cell 0 rfl
      have y1 := Y.out.cell 1 rfl
      have y2 := Y.out.cell 2 rfl
      have x0 := X.out.cell 0 rfl
      have x1 := X.out.cell 1 rfl
      have x2 := X.out.cell 2 rfl
      have z0 := X.out.frozen 0
      have z1 := X.out.frozen 1
      have z2 := X.out.frozen 2
      have HOk : Hid (okIns (v : Int) (rg : Int) (0 : Int) = true) := Lib.hid (ok_drawn hv (.inl ⟨hr.1, hr.2, hrg⟩) (.inr (.inr (.inr ⟨h21, hl, rfl⟩))))
      go_wp2
      refine bodyPost_ret (v := .agg #[.int .i64 (v : Int), .int .i64 rg, .int .i64 0]) (by simp [results, Tryd.results22, go_sem, x0, x1, x2]) rfl ?_
      refine ⟨_, _, _, rfl, HOk.out, ?_⟩
      exact fin_keep (D := D) hbw (by omega) (three_set _ _ _ (Nat.le_refl _)) S.out HB.out (by omega)
  · rw [show rngB (v : Int) 5 14 = false by unfold rngB; simp; omega]
    have y0 := Y.out.cell 0 rfl
    by_cases h21 : v = 21
    · have i21 : (v : Int) = 21 := by omega
      go_wp2_with fail
      refine (srcNext 4 b A n c zs (K + 1) _ (by omega) (by omega) (by omega) S.out).mono ?_
      rintro e wag ⟨ag, rfl, hag, S9, hb⟩
      replace HB := Lib.hid (HB.out.trans hb)
      replace X := Lib.hid (X.out.btw hb (.inr (by omega)))
      replace Y := Lib.hid (Y.out.btw hb (.inr (by omega)))
      replace S := S9
      clear S9 hb
      clear y0
      have y0 := Y.out.cell 0 rfl
      have y1 := Y.out.cell 1 rfl
      have y2 := Y.out.cell 2 rfl
      have yz := Y.out.frozen 2
      have x0 := X.out.cell 0 rfl
      have x1 := X.out.cell 1 rfl
      have x2 := X.out.cell 2 rfl
      have z0 := X.out.frozen 0
      have z1 := X.out.frozen 1
      have z2 := X.out.frozen 2
      have HOk : Hid (okIns (v : Int) (0 : Int) (ag : Int) = true) := Lib.hid (ok_drawn hv (.inr ⟨by omega, rfl⟩) (.inl ⟨h21, hag⟩))
      go_wp2
      refine bodyPost_ret (v := .agg #[.int .i64 (v : Int), .int .i64 0, .int .i64 ag]) (by simp [results, Tryd.results22, go_sem, x0, x1, x2, i21]) rfl ?_
      refine ⟨_, _, _, rfl, HOk.out, ?_⟩
      exact fin_keep (D := D) hbw (by omega) (four_set _ _ _ _ (by omega) (Nat.le_refl _)) S.out HB.out (by omega)
    · have i21 : ¬ (v : Int) = 21 := by omega
      go_wp2_with fail
      refine (HLn.out _).mono ?_
      rintro e _ ⟨rfl, rfl⟩
      have hlen := lenT_range (v : Int)
      rcases (by omega : lenT (v : Int) = 2 ∨ lenT (v : Int) = 3 ∨ lenT (v : Int) = 1) with hl | hl | hl
      · rw [hl]
        go_wp2_with fail
        refine (srcNext 256 b A n c zs (K + 1) _ (by omega) (by omega) (by omega) S.out).mono ?_
        rintro e wag ⟨ag, rfl, hag, S9, hb⟩
        replace HB := Lib.hid (HB.out.trans hb)
        replace X := Lib.hid (X.out.btw hb (.inr (by omega)))
        replace Y := Lib.hid (Y.out.btw hb (.inr (by omega)))
        replace S := S9
        clear S9 hb
        clear y0
        have y0 := Y.out.cell 0 rfl
        have y1 := Y.out.cell 1 rfl
        have y2 := Y.out.cell 2 rfl
        have yz := Y.out.frozen 2
        have x0 := X.out.cell 0 rfl
        have x1 := X.out.cell 1 rfl
        have x2 := X.out.cell 2 rfl
        have z0 := X.out.frozen 0
        have z1 := X.out.frozen 1
        have z2 := X.out.frozen 2
        have HOk : Hid (okIns (v : Int) (0 : Int) (ag : Int) = true) := Lib.hid (ok_drawn hv (.inr ⟨by omega, rfl⟩) (.inr (.inl ⟨h21, hl, hag⟩)))
        go_wp2
        refine bodyPost_ret (v := .agg #[.int .i64 (v : Int), .int .i64 0, .int .i64 ag]) (by simp [results, Tryd.results22, go_sem, x0, x1, x2]) rfl ?_
        refine ⟨_, _, _, rfl, HOk.out, ?_⟩
        exact fin_keep (D := D) hbw (by omega) (four_set _ _ _ _ (by omega) (Nat.le_refl _)) S.out HB.out (by omega)
      · rw [hl]
        go_wp2_with fail
        refine (HLn.out _).mono ?_
        rintro e _ ⟨rfl, rfl⟩
        rw [hl]
        go_wp2_with fail
        refine (srcNextBig 4096 b A n c zs (K + 1) _ (by omega) (by omega) (by omega) S.out).mono ?_
        rintro e wag ⟨ag, rfl, hag, S9, hb⟩
        replace HB := Lib.hid (HB.out.trans hb)
        replace X := Lib.hid (X.out.btw hb (.inr (by omega)))
        replace Y := Lib.hid (Y.out.btw hb (.inr (by omega)))
        replace S := S9
        clear S9 hb
        clear y0
        have y0 := Y.out.cell 0 rfl
        have y1 := Y.out.cell 1 rfl
        have y2 := Y.out.cell 2 rfl
        have yz := Y.out.frozen 2
        have x0 := X.out.cell 0 rfl
        have x1 := X.out.cell 1 rfl
        have x2 := X.out.cell 2 rfl
        have z0 := X.out.frozen 0
        have z1 := X.out.frozen 1
        have z2 := X.out.frozen 2
        have HOk : Hid (okIns (v : Int) (0 : Int) (ag : Int) = true) := Lib.hid (ok_drawn hv (.inr ⟨by omega, rfl⟩) (.inr (.inr (.inl ⟨h21, hl, hag⟩))))
        go_wp2
        refine bodyPost_ret (v := .agg #[.int .i64 (v : Int), .int .i64 0, .int .i64 ag]) (by simp [results, Tryd.results22, go_sem, x0, x1, x2]) rfl ?_
        refine ⟨_, _, _, rfl, HOk.out, ?_⟩
        exact fin_keep (D := D) hbw (by omega) (four_set _ _ _ _ (by omega) (Nat.le_refl _)) S.out HB.out (by omega)
      · rw [hl]
        go_wp2_with fail
        refine (HLn.out _).mono ?_
        rintro e _ ⟨rfl, rfl⟩
        rw [hl]
        clear y0
        have y0 := Y.out.cell 0 rfl
        have y1 := Y.out.cell 1 rfl
        have y2 := Y.out.cell 2 rfl
        have x0 := X.out.cell 0 rfl
        have x1 := X.out.cell 1 rfl
        have x2 := X.out.cell 2 rfl
        have z0 := X.out.frozen 0
        have z1 := X.out.frozen 1
        have z2 := X.out.frozen 2
        have HOk : Hid (okIns (v : Int) (0 : Int) (0 : Int) = true) := Lib.hid (ok_drawn hv (.inr ⟨by omega, rfl⟩) (.inr (.inr (.inr ⟨h21, hl, rfl⟩))))
        go_wp2
        refine bodyPost_ret (v := .agg #[.int .i64 (v : Int), .int .i64 0, .int .i64 0]) (by simp [results, Tryd.results22, go_sem, x0, x1, x2]) rfl ?_
        refine ⟨_, _, _, rfl, HOk.out, ?_⟩
        exact fin_keep (D := D) hbw (by omega) (three_set _ _ _ (Nat.le_refl _)) S.out HB.out (by omega)
end Go.Proofs.YtcchhbkbnbphhaaDoor

/- Drawn instructions; instructions that are compared; what the calls of FnCode and FnAssemble answer at a valid instruction. -/
namespace Go.Proofs.YtcchhbkbnbphhaaDoor
open Go.RowKit

theorem own_row {w : World} {lo hi : Nat} {A : Option Addr} {n c : Nat} {zs : List Int} (_hl : zs.length = n) (h : OwnL w lo hi (.slice A n c) (.I zs)) : OwnI w lo hi A zs := by
  obtain ⟨B, d, e, o⟩ := h
  injection e with e1 e2 e3; subst e1; exact o
theorem enc_ok {op reg arg : Int} (h : okIns op reg arg = true) : encF op reg arg = (encL op reg arg, 0) := by unfold encF; rw [h]; rfl
def GivesInsD (w : World) (e : Ending) (w' : World) : Prop :=
  ∃ op reg arg : Int, e = .returned (.agg #[.int .i64 op, .int .i64 reg, .int .i64 arg]) ∧ okIns op reg arg = true ∧ Below w.heap.size w w'
set_option maxRecDepth 100000 in
set_option maxHeartbeats 4000000 in
theorem instrDrawn (A : Option Addr) (n c : Nat) (zs : List Nat) (w : World) (hn : n ≤ maxLen) (hl : zs.length = n) (h : ByB w w.heap.size A zs) :
    Calls Tryd.prog 5 #[.slice A n c] w (GivesInsD w) := by
  obtain ⟨W0, hW0⟩ : ∃ W0, W0 = w.alloc (.cells #[.int .i64 0, .int .i64 0, .int .i64 0] 24) := ⟨_, rfl⟩
  have hb0 : Below w.heap.size w W0 := by rw [hW0]; exact alloc_below _ _
  have HY0 : Hid (Box W0 w.heap.size 24 #[.int .i64 0, .int .i64 0, .int .i64 0]) := Lib.hid (by rw [hW0]; exact Box.new _ _ _)
  have HC := Lib.hid (srcNew A n c zs W0 hn hl (h.step hb0))
  have HW0 := Lib.hid hW0
  clear hn hl h hW0
  go_enter Tryd.func5, Tryd.ntmps5
  go_wp2_with fail
  rw [← HW0.out]
  refine HC.out.mono ?_
  rintro e w1 ⟨rfl, S1, hb1⟩
  have HY1 := Lib.hid (HY0.out.step hb1)
  have hsz : w.heap.size + 1 ≤ W0.heap.size := HY0.out.lt
  go_wp2_with fail
  refine (instrDraw W0.heap.size A n c zs 0 w1 (by omega) S1.out).mono ?_
  rintro e w2 ⟨op, reg, arg, rfl, hok, S2, B2⟩
  have Y2 := Lib.hid (HY1.out.btw B2 (.inl (by omega)))
  have HB2 := Lib.hid ((hb0.trans (hb1.mono (by omega))).trans ((B2.below (hb1.size)).mono (by omega)))
  have g0 := Y2.out.cell 0 rfl
  have g1 := Y2.out.cell 1 rfl
  have g2 := Y2.out.cell 2 rfl
  have z0 := Y2.out.frozen 0
  have z1 := Y2.out.frozen 1
  have z2 := Y2.out.frozen 2
  have HOk := Lib.hid hok
  clear HC HY0 HY1 S1 B2 hok S2
  go_wp2
  refine bodyPost_ret (v := .agg #[.int .i64 op, .int .i64 reg, .int .i64 arg]) (by simp [results, Tryd.results5, go_sem, g0, g1, g2]) rfl ?_
  exact ⟨op, reg, arg, rfl, HOk.out, HB2.out.trans (three_set _ _ _ (Nat.le_refl _))⟩
set_option maxRecDepth 100000 in
theorem lawSameIntsD (A A' : Option Addr) (n c c' : Nat) (zs : List Int) (w : World) (hl : zs.length = n) (hn : n ≤ 1048576) (h : IntL w A zs) (h' : IntL w A' zs) :
    Calls Tryd.prog 13 #[.slice A n c, .slice A' n c'] w fun e w' => e = .returned (.bool true) ∧ Below w.heap.size w w' := by
  have HL := Lib.hid hl
  have H := Lib.hid h
  have H' := Lib.hid h'
  clear hl h h'
  have hb : ((n : Int) != (n : Int)) = false := by simp
  go_enter Tryd.func13, Tryd.ntmps13
  go_wp2
  go_loopw [5] (fun i wr => ∃ k : Nat, k ≤ n ∧ i = .int .i64 k ∧ Below w.heap.size w wr) (fun i _ => n - (intOf i).toNat)
  case atStart => exact ⟨0, Nat.zero_le _, rfl, Below.refl _ _⟩
  case round =>
    obtain ⟨k, hk, rfl, hbw⟩ := hrel
    by_cases hlt : k < n
    · obtain ⟨b, off, rfl, hc⟩ := (H.out.below hbw) k (by rw [HL.out]; exact hlt)
      obtain ⟨b', off', rfl, hc'⟩ := (H'.out.below hbw) k (by rw [HL.out]; exact hlt)
      generalize zs.getD k 0 = x at hc hc'
      have hi : (k : Int) < (n : Int) := by omega
      have hq1 : (x != x) = false := by simp
      go_wp2
      go_quiet (fail)
      go_wp2
      go_roundw
      case rel => exact ⟨k + 1, by omega, by go_num, hbw.trans ⟨rfl, rfl, rfl, Nat.le_refl _, fun _ _ => rfl⟩⟩
      case measure => simp [intOf]; omega
    · go_wp2
      go_ret
      exact ⟨rfl, hbw⟩
end Go.Proofs.YtcchhbkbnbphhaaDoor

/- Contracts of commanded, chip.next, chip.wipe. -/
namespace Go.Proofs.YtcchhbkbnbphhaaDoor
open Go.RowKit

def eraseN (zs : List Int) (gs : List Bool) : Nat → List Int
  | 0 => zs
  | n + 1 => eraseL (eraseN zs gs n) gs n
theorem eraseN_len (zs : List Int) (gs : List Bool) : ∀ n, (eraseN zs gs n).length = zs.length
  | 0 => rfl
  | n + 1 => by rw [eraseN, eraseL_len, eraseN_len zs gs n]
end Go.Proofs.YtcchhbkbnbphhaaDoor

/- Contracts of chip.wipe and chip.cycle. -/
namespace Go.Proofs.YtcchhbkbnbphhaaDoor
open Go.RowKit

theorem BC.again {w w' : World} {b : Nat} {zs zs' : List Int} {gs gs' : List Bool} {st st' : Int} (h : BC w b zs gs st) (hb : Below w.heap.size w w') (h1 : zs'.length = zs.length) (h2 : gs'.length = gs.length) : BC (w'.setCells b 0 (chipC zs' gs' st')) b zs' gs' st' := (h.step hb).put h1 h2
structure Loads (W : World) (b : Nat) (cs : List Value) : Prop where
  range : W.rangeAt b 0 cs
  size : (Tryd.prog.info? 95).map (·.size) = some cs.length
theorem BC.loads {W : World} {b : Nat} {zs : List Int} {gs : List Bool} {st : Int} (h : BC W b zs gs st) (hz : zs.length = 256) (hg : gs.length = 16) : Loads W b (chipC zs gs st) := ⟨h.range, sizeC zs gs st hz hg⟩
structure Stores (W : World) (b : Nat) (cs : List Value) : Prop where
  room : W.there b 0 cs.toArray.size
  size : (Tryd.prog.info? 95).map (·.size) = some cs.toArray.size
  one : cs.toArray.all (·.oneCell') = true
theorem BC.stores {W : World} {b : Nat} {zs zs' : List Int} {gs gs' : List Bool} {st st' : Int} (h : BC W b zs gs st) (hz : zs.length = 256) (hg : gs.length = 16) (hz' : zs'.length = 256) (hg' : gs'.length = 16) : Stores W b (chipC zs' gs' st') :=
  ⟨by rw [show (chipC zs' gs' st').toArray.size = 273 from List.size_toArray.trans (chipC_273 hz' hg' st')]; exact h.there273 hz hg, (sizeC zs' gs' st' hz' hg').trans (congrArg some List.size_toArray.symm), all_oneCell_toArray (chipC_one zs' gs' st')⟩

end Go.Proofs.YtcchhbkbnbphhaaDoor

/- NewFlash on both sides. -/
namespace Go.Proofs.YtcchhbkbnbphhaaDoor
open Go.RowKit

def newZ : List Int := List.replicate 256 255
theorem newZ_len : newZ.length = 256 := List.length_replicate
theorem erase_all : eraseN zZ zG 16 = newZ := by decide +kernel

set_option maxRecDepth 100000 in
set_option maxHeartbeats 4000000 in
theorem implNewFlashC (w : World) : Calls Tryd.prog 41 #[] w (GivesFlashC newZ zG 0 w) := by
  obtain ⟨zc, hzc⟩ : ∃ zc, zc = zC.toArray := ⟨_, rfl⟩
  obtain ⟨W0, hW0⟩ : ∃ W0, W0 = (w.alloc (.cells #[.slice none 0 0, .slice none 0 0, .int .i64 0] 44)) := ⟨_, rfl⟩
  have hs0 : W0.heap.size = w.heap.size + 1 := by rw [hW0]; simp
  have Y0 : Box W0 w.heap.size 44 #[.slice none 0 0, .slice none 0 0, .int .i64 0] := by rw [hW0]; exact Box.new _ _ _
  have hb0 : Below w.heap.size w W0 := by rw [hW0]; exact alloc_below _ _
  have X1 : BC (W0.alloc (.cells zc 95)) (w.heap.size + 1) zZ zG 0 := by have := BC.newZ W0; rw [hs0, ← hzc] at this; exact this
  have Y1 := Y0.alloc (.cells zc 95)
  have hb1 := bt hb0 (alloc_below W0 (.cells zc 95))
  have HIn := Lib.hid infoCx
  rw [← hzc] at HIn
  have HEr := Lib.hid (fun b (hb : b < 16) zs' (hz' : zs'.length = 256) W => chipErase b zs' zG 0 W hz' zG_len hb)
  have HX := Lib.hid (And.intro X1 (And.intro Y1 hb1))
  have HW0 := Lib.hid hW0
  have HS0 := Lib.hid hs0
  clear X1 Y1 hb1 Y0 hb0 hzc hW0 hs0
  go_enter Tryd.func41, Tryd.ntmps41
  go_wp2_with (first
    | (rw [← HW0.out]; with_reducible refine wpList_alloc_at rfl 95 rfl zc HIn.out (w.heap.size + 1) HS0.out ?_))
  go_loopw [3] (fun i wr => ∃ j : Nat, j ≤ 16 ∧ i = .int .i64 j ∧ Below w.heap.size w wr ∧ Hid (BC wr (w.heap.size + 1) (eraseN zZ zG j) zG 0) ∧ Hid (Box wr w.heap.size 44 #[.slice none 0 0, .slice none 0 0, .int .i64 0])) (fun i _ => 16 - (intOf i).toNat)
  case atStart => exact ⟨0, by omega, rfl, HX.out.2.2, Lib.hid HX.out.1, Lib.hid HX.out.2.1⟩
  case round =>
    clear HX HW0 HS0
    obtain ⟨j, hj, rfl, hbw, X, Y⟩ := hrel
    by_cases hlt : j < 16
    · have HLd := Lib.hid (X.out.loads (by rw [eraseN_len]; exact zZ_len) zG_len)
      have HE : Hid (Calls Tryd.prog 55 #[.agg (chipC (eraseN zZ zG j) zG 0).toArray, .int .i64 j] wr fun e w' => e = .returned (.agg (chipC (eraseN zZ zG (j + 1)) zG 0).toArray) ∧ Below wr.heap.size wr w') := Lib.hid (HEr.out j hlt (eraseN zZ zG j) (by rw [eraseN_len]; exact zZ_len) wr)
      have HSt := Lib.hid (fun w' (hb : Below wr.heap.size wr w') => (X.out.step hb).stores (zs' := eraseN zZ zG (j + 1)) (gs' := zG) (st' := 0) (by rw [eraseN_len]; exact zZ_len) zG_len (by rw [eraseN_len]; exact zZ_len) zG_len)
      have HXn := Lib.hid (fun w' (hb : Below wr.heap.size wr w') => X.out.again (zs' := eraseN zZ zG (j + 1)) (gs' := zG) (st' := 0) hb (by rw [eraseN_len, eraseN_len]) rfl)
      have HYn := Lib.hid (fun w' (hb : Below wr.heap.size wr w') cs => setCells_far (Y.out.step hb) (show w.heap.size ≠ w.heap.size + 1 by omega) 0 cs)
      generalize hca : chipC (eraseN zZ zG j) zG 0 = ca at HLd HE
      generalize hcb : chipC (eraseN zZ zG (j + 1)) zG 0 = cb at HE HSt HXn
      have hi : (j : Int) < 16 := by omega
      clear X Y hca hcb
      go_wp2_with (first
        | (with_reducible refine wpList_load_mid rfl 95 (.tmp 1) rfl (w.heap.size + 1) 0 rfl ca _ HLd.out.range Tryd.underlying95 rfl HLd.out.size ?_))
      refine HE.out.mono ?_
      rintro e w2 ⟨rfl, hb2⟩
      have HS := Lib.hid (HSt.out w2 hb2)
      go_wp2_with (first
        | (with_reducible refine wpList_store_mid rfl 95 (.tmp 1) (.tmp 8) rfl (w.heap.size + 1) 0 cb.toArray rfl rfl HS.out.room HS.out.size HS.out.one ?_))
      go_roundw
      case rel => exact ⟨j + 1, by omega, by go_num, below_setCellsC (bt hbw hb2) (by omega) 0 cb, Lib.hid (HXn.out w2 hb2), Lib.hid (HYn.out w2 hb2 cb)⟩
      case measure => simp [intOf]; omega
    · obtain rfl : j = 16 := by omega
      have HX : Hid (BC wr (w.heap.size + 1) newZ zG 0) := Lib.hid (by have := X.out; rwa [erase_all] at this)
      have HLd := Lib.hid (HX.out.loads newZ_len zG_len)
      have HF := Lib.hid (chipFlashC newZ zG 0 wr newZ_len zG_len (by intro z hz; have := List.eq_of_mem_replicate hz; omega))
      generalize hca : chipC newZ zG 0 = ca at HLd HF
      clear hca X HEr HIn
      go_wp2_with (first
        | (with_reducible refine wpList_load_mid rfl 95 (.tmp 1) rfl (w.heap.size + 1) 0 rfl ca _ HLd.out.range Tryd.underlying95 rfl HLd.out.size ?_))
      refine HF.out.mono ?_
      rintro e w3 ⟨A3, n3, c3, C3, m3, d3, rfl, L3, M3, S3, R3, Q3, hb3⟩
      have Y3 := Y.out.step hb3
      have s0 := Y3.cell 0 rfl
      have s1 := Y3.cell 1 rfl
      have s2 := Y3.cell 2 rfl
      have s0z := Y3.frozen 0
      have s1z := Y3.frozen 1
      have s2z := Y3.frozen 2
      have HY3 := Lib.hid Y3
      clear Y3
      go_wp2
      refine bodyPost_ret (v := .agg #[.slice A3 n3 c3, .slice C3 m3 d3, .int .i64 0]) (by simp [results, Tryd.results41, go_sem, s0, s1, s2]) rfl ?_
      exact ⟨_, _, _, _, _, _, rfl, L3, M3, Lib.hid ((S3.out.far3 HY3.out _ _ _).wideB hbw.size (by rw [size3]; exact Nat.le_refl _)), Lib.hid ((R3.out.far3 HY3.out _ _ _).wide hbw.size (by rw [size3]; exact Nat.le_refl _)), Q3, below3 (bt hbw hb3) (by omega) _ _ _⟩
end Go.Proofs.YtcchhbkbnbphhaaDoor

/- Contracts of the model's l04Flash and FlashOf. -/
namespace Go.Proofs.YtcchhbkbnbphhaaDoor
open Go.RowKit

def GroB (w : World) (base : Nat) (v : Value) (gs : List Bool) : Prop := w.ownsRow base 4 1 v gs.length (gs.map Value.bool)
theorem GroB.own {w : World} {base lo : Nat} {A : Option Addr} {n c : Nat} {zs : List Bool} (h : GroB w base (.slice A n c) zs) (hb : lo ≤ base) : OwnB w lo w.heap.size A zs := by
  obtain ⟨h1, ⟨h0, h2⟩ | ⟨g, cap, cur, hv, q1, q2, q3, q4, q5, q6⟩⟩ := h
  · exact .inl (List.eq_nil_of_length_eq_zero h2)
  · injection hv with hv1 hv2 hv3
    refine .inr ⟨g, cap, fun i => cur.getD i (.int .i64 0), hv1, by omega, (Array.getElem?_eq_some_iff.1 q2).1, q3, ⟨cur, q2, by omega, fun i hi => ?_⟩, fun i hi => ?_⟩
    · simp [Array.getElem?_eq_getElem (show i < cur.size by omega)]
    · have : (cur.toList.take (zs.length * 1))[i]? = (zs.map (Value.bool))[i]? := by rw [q6]
      rw [List.getElem?_take, if_pos (by omega), Array.getElem?_toList, List.getElem?_map, List.getElem?_eq_getElem hi] at this
      simp [this, List.getD_eq_getElem?_getD, List.getElem?_eq_getElem hi]

theorem rowv_grown {w w' : World} {base base' n n' : Nat} {e e' : TypeId} {v v' : Value} {xs xs' : List Value} (h : w.ownsRow base' e' 1 v' n' xs') (hr : w.ownsRow base e 1 v n xs) (ht : e' ≠ e) (hg : w.grownBy w' v.ownBlock) : w'.ownsRow base' e' 1 v' n' xs' := by
  obtain ⟨h1, h0 | ⟨g, cap, cur, rfl, q1, q2, q3⟩⟩ := h
  · exact ⟨h1, .inl h0⟩
  · exact ⟨h1, .inr ⟨g, cap, cur, rfl, q1, Box.grown (cs := cur) q2 hr ht hg, q3⟩⟩
structure FL (w wr : World) (A : Option Addr) (n c : Nat) (acc : List Int) (C : Option Addr) (m d : Nat) (gs : List Bool) : Prop where
  bel : Below w.heap.size w wr
  r : Box wr w.heap.size 44 #[.slice none 0 0, .slice none 0 0, .int .i64 0]
  f : Box wr (w.heap.size + 3) 44 #[.slice A n c, .slice C m d, .int .i64 0]
  i : wr.ownsRow (w.heap.size + 1) 3 1 (.slice A n c) n (acc.map (Value.int .i64))
  b : wr.ownsRow (w.heap.size + 1) 4 1 (.slice C m d) m (gs.map Value.bool)
  len : acc.length = n
  lem : gs.length = m
theorem FL.step {w wr w2 : World} {A : Option Addr} {n c : Nat} {acc : List Int} {C : Option Addr} {m d : Nat} {gs : List Bool} (h : FL w wr A n c acc C m d gs) (hb : Below wr.heap.size wr w2) : FL w w2 A n c acc C m d gs :=
  ⟨bt h.bel hb, h.r.step hb, h.f.step hb, rowv_below h.i hb, rowv_below h.b hb, h.len, h.lem⟩
theorem FL.size {w wr : World} {A : Option Addr} {n c : Nat} {acc : List Int} {C : Option Addr} {m d : Nat} {gs : List Bool} (h : FL w wr A n c acc C m d gs) : w.heap.size + 4 ≤ wr.heap.size := by have := h.f.lt; omega
theorem FL.int {w w1 w2 : World} {A A2 : Option Addr} {n c c2 : Nat} {acc : List Int} {C : Option Addr} {m d : Nat} {gs : List Bool} {v : Int} (h : FL w w1 A n c acc C m d gs) (hR : w2.ownsRow (w.heap.size + 1) 3 1 (.slice A2 (n + 1) c2) (n + 1) (acc.map (Value.int .i64) ++ [.int .i64 v])) (hg : w1.grownBy w2 (Value.slice A n c).ownBlock) (hb : Below (w.heap.size + 1) w1 w2) :
    FL w (w2.setCell ⟨w.heap.size + 3, 0, none⟩ (.slice A2 (n + 1) c2)) A2 (n + 1) c2 (acc ++ [v]) C m d gs := by
  have F2 := h.f.grown h.i (by decide) hg
  have R2 := h.r.below hb (by omega)
  have B2 := rowv_grown h.b h.i (by decide) hg
  have bz : Below w.heap.size w w2 := h.bel.trans (hb.mono (by omega))
  refine ⟨bz.setCell (p := ⟨w.heap.size + 3, 0, none⟩) (by show w.heap.size ≤ w.heap.size + 3; omega) _, R2.far (p := ⟨w.heap.size + 3, 0, none⟩) (by show w.heap.size ≠ w.heap.size + 3; omega) _, F2.set 0 _, ?_, rowv_setBox B2 F2 (by decide) 0 _, by simp [h.len], h.lem⟩
  have := rowv_setBox hR F2 (by decide) 0 (.slice A2 (n + 1) c2)
  simpa using this
theorem FL.bool {w w1 w2 : World} {A C2 : Option Addr} {n c d2 : Nat} {acc : List Int} {C : Option Addr} {m d : Nat} {gs : List Bool} {v : Bool} (h : FL w w1 A n c acc C m d gs) (hR : w2.ownsRow (w.heap.size + 1) 4 1 (.slice C2 (m + 1) d2) (m + 1) (gs.map Value.bool ++ [.bool v])) (hg : w1.grownBy w2 (Value.slice C m d).ownBlock) (hb : Below (w.heap.size + 1) w1 w2) :
    FL w (w2.setCell ⟨w.heap.size + 3, 1, none⟩ (.slice C2 (m + 1) d2)) A n c acc C2 (m + 1) d2 (gs ++ [v]) := by
  have F2 := h.f.grown h.b (by decide) hg
  have R2 := h.r.below hb (by omega)
  have B2 := rowv_grown h.i h.b (by decide) hg
  have bz : Below w.heap.size w w2 := h.bel.trans (hb.mono (by omega))
  refine ⟨bz.setCell (p := ⟨w.heap.size + 3, 1, none⟩) (by show w.heap.size ≤ w.heap.size + 3; omega) _, R2.far (p := ⟨w.heap.size + 3, 1, none⟩) (by show w.heap.size ≠ w.heap.size + 3; omega) _, F2.set 1 _, rowv_setBox B2 F2 (by decide) 1 _, ?_, h.len, by simp [h.lem]⟩
  have := rowv_setBox hR F2 (by decide) 1 (.slice C2 (m + 1) d2)
  simpa using this
theorem FL.new (w : World) : FL w ((((w.alloc (.cells #[.slice none 0 0, .slice none 0 0, .int .i64 0] 44)).alloc (.cells #[] 3)).alloc (.cells #[] 4)).alloc (.cells #[.slice (some ⟨w.heap.size + 1, 0, none⟩) 0 0, .slice (some ⟨w.heap.size + 1 + 1, 0, none⟩) 0 0, .int .i64 0] 44)) (some ⟨w.heap.size + 1, 0, none⟩) 0 0 [] (some ⟨w.heap.size + 1 + 1, 0, none⟩) 0 0 [] := by
  refine ⟨bt (bt (bt (alloc_below _ _) (alloc_below _ _)) (alloc_below _ _)) (alloc_below _ _), (((Box.new _ _ _).alloc _).alloc _).alloc _, ?_, ?_, ?_, rfl, rfl⟩
  · have := Box.new (((w.alloc (.cells #[.slice none 0 0, .slice none 0 0, .int .i64 0] 44)).alloc (.cells #[] 3)).alloc (.cells #[] 4)) 44 #[.slice (some ⟨w.heap.size + 1, 0, none⟩) 0 0, .slice (some ⟨w.heap.size + 1 + 1, 0, none⟩) 0 0, .int .i64 0]
    simpa using this
  · refine rowv_empty (Nat.le_refl _) ?_
    have := ((Box.new (w.alloc (.cells #[.slice none 0 0, .slice none 0 0, .int .i64 0] 44)) 3 #[]).alloc (.cells #[] 4)).alloc (.cells #[.slice (some ⟨w.heap.size + 1, 0, none⟩) 0 0, .slice (some ⟨w.heap.size + 1 + 1, 0, none⟩) 0 0, .int .i64 0] 44)
    simpa using this
  · refine rowv_empty (by omega) ?_
    have := (Box.new ((w.alloc (.cells #[.slice none 0 0, .slice none 0 0, .int .i64 0] 44)).alloc (.cells #[] 3)) 4 #[]).alloc (.cells #[.slice (some ⟨w.heap.size + 1, 0, none⟩) 0 0, .slice (some ⟨w.heap.size + 1 + 1, 0, none⟩) 0 0, .int .i64 0] 44)
    simpa using this
end Go.Proofs.YtcchhbkbnbphhaaDoor

/- What FnAssemble collects: texts and bytes of valid instructions, in rows of the law's own. -/
namespace Go.Proofs.YtcchhbkbnbphhaaDoor
open Go.RowKit

set_option maxRecDepth 100000 in
theorem elemU8 : Elem Tryd.prog 5 (.int .u8 0) 1 1 := ⟨⟨_, rfl, rfl, rfl, rfl⟩, rfl, by decide⟩
theorem wpList_app_any {P : Program} {w : World} {ops : Array Oper} {rest : List Oper} {o : Oper} {a : Act} {Q : Exit → Act → World → Prop} (hgd : o.guard = none) (s x : Operand) (t e : TypeId)
    (ho : o.op = .call { callee := .builtin .append, args := #[s, x], argTypes := #[t, t] }) (z : Value) (size bytes : Nat) (E : Elem P e z size bytes) (ht : P.underlying t = some (.slice e))
    (base : Nat) (v : Value) (n : Nat) (xs : List Value) (hs : a.eval s = v) (hown : w.ownsRow base e size v n xs)
    (A : Option Addr) (m c : Nat) (hx : a.eval x = .slice A m c) (news : List Value) (hl : news.length = m * size) (hsrc : 0 < m → ∃ ad, A = some ad ∧ ∀ j u, news[j]? = some u → w.cell? (ad.add j) = some u) (h1 : ∀ u ∈ news, u.oneCell' = true)
    (h63 : n + m ≤ maxLen) (hby : (n + m) * bytes ≤ 140737488355328) (hbase : base ≤ w.heap.size)
    (hK : ∀ A cap w', w'.ownsRow base e size (.slice A (n + m) cap) (n + m) (xs ++ news) → n + m ≤ cap → w.grownBy w' v.ownBlock → Below base w w' → wpList P ops Q rest (a.put o.dst (.slice A (n + m) cap)) w') : wpList P ops Q (o :: rest) a w := by
  rcases Nat.eq_zero_or_pos m with rfl | hm
  · obtain ⟨i, hi, hz, hsz, hb⟩ := E.info
    obtain rfl : news = [] := List.eq_nil_of_length_eq_zero (by rw [hl]; omega)
    obtain ⟨A9, cap, rfl, hcap⟩ := rowv_form hown
    have hr : (Builtin.append_ #[t, t] o.type #[.slice A9 n cap, .slice A 0 c]).run P w = .ok (.slice A9 n cap) w := by
      rcases hown.2 with ⟨h0, rfl⟩ | ⟨g, cap', cur, h0, _, _, hnc, _⟩
      · injection h0 with q1 q2 q3
        subst q1 q3
        cases A <;> simp [Builtin.append_, run_underlying ht, sizeOf, typeInfo, hi, Builtin.lenOf, Builtin.firstCells, storeCells, loadCells, loadCellsFrom]
      · injection h0 with q1 q2 q3
        subst q1 q3
        cases A <;> simp [Builtin.append_, run_underlying ht, sizeOf, typeInfo, hi, Builtin.lenOf, Builtin.firstCells, hnc, storeCells, loadCells, loadCellsFrom]
    refine wpList_plain hgd fun _ hK2 => ?_
    unfold Oper.wp execOp
    simp only [ho, resolve, invoke, builtin, Sem.run_bind, Sem.run_pure, Result.andThen_ok, List.map_toArray, List.map_cons, List.map_nil, hs, hx, hr]
    refine hK2 _ _ (hK A9 cap w ?_ hcap ⟨rfl, rfl, rfl, Nat.le_refl _, fun _ _ _ => rfl⟩ (Below.refl _ _))
    rw [List.append_nil]; exact hown
  · obtain ⟨ad, rfl, hc⟩ := hsrc hm
    exact wpList_app_many hgd s x t e ho z size bytes E ht base v n xs hs hown ad m c hx news hl hc h1 h63 hby hbase hK
theorem enc_bytes {op reg arg : Int} (h : okIns op reg arg = true) : ∀ x ∈ encL op reg arg, 0 ≤ x ∧ x ≤ 255 := by
  obtain ⟨h1, h2, h3, h4, h5, h6⟩ := okIns_iff h
  have hr := regT_range op
  obtain ⟨l1, l2, l3⟩ := arg_of_len op ⟨h1, h2⟩
  have hl := lenT_range op
  intro x hx
  rcases (by omega : lenT op = 1 ∨ lenT op = 2 ∨ lenT op = 3) with g | g | g
  · rw [encL_1 op reg arg g] at hx
    simp at hx; omega
  · have := l2 g
    rw [encL_2 op reg arg g h5 (by omega)] at hx
    simp at hx; omega
  · have := l3 g
    rw [encL_3 op reg arg g h5 (by omega)] at hx
    simp at hx; omega
theorem cdK_pre (ss : List ByteArray) (t : ByteArray) : ∀ k, k ≤ ss.length → cdK (ss ++ [t]) k = cdK ss k
  | 0, _ => rfl
  | k + 1, hk => by
    rw [cdK, cdK, cdK_pre ss t k (by omega), List.getD_eq_getElem?_getD, List.getD_eq_getElem?_getD, List.getElem?_append_left (by omega)]
structure AsmD (ss : List ByteArray) (ds : List Int) (i m : Nat) : Prop where
  len : ss.length = i
  dlen : ds.length = m
  few : m ≤ 3 * i
  all : ∀ k, k < ss.length → (rdF (ss.getD k ByteArray.empty)).2 = true
  size : ∀ x ∈ ss, x.size ≤ 65536
  code : cdK ss ss.length = ds
  bytes : ∀ x ∈ ds, 0 ≤ x ∧ x ≤ 255
theorem AsmD.snoc {ss : List ByteArray} {ds : List Int} {i m : Nat} (h : AsmD ss ds i m) {op reg arg : Int} (hok : okIns op reg arg = true) (ln : Nat) (hln : (encL op reg arg).length = ln) : AsmD (ss ++ [txtB op reg arg]) (ds ++ encL op reg arg) (i + 1) (m + ln) := by
  have hr := rd_txt hok
  have hl := encL_len op reg arg
  have hlt := lenT_range op
  have hsl : (ss ++ [txtB op reg arg]).length = ss.length + 1 := by simp
  have hlast : (ss ++ [txtB op reg arg]).getD ss.length ByteArray.empty = txtB op reg arg := by
    rw [List.getD_eq_getElem?_getD, List.getElem?_append_right (Nat.le_refl _), Nat.sub_self]; rfl
  refine ⟨by rw [hsl, h.len], by rw [List.length_append, h.dlen, hln], by have := h.few; omega, fun k hk => ?_, fun x hx => ?_, ?_, fun x hx => ?_⟩
  · rw [hsl] at hk
    rcases Nat.lt_or_ge k ss.length with q | q
    · rw [List.getD_eq_getElem?_getD, List.getElem?_append_left q, ← List.getD_eq_getElem?_getD]; exact h.all k q
    · obtain rfl : k = ss.length := by omega
      rw [hlast, hr]
  · rcases List.mem_append.1 hx with q | q
    · exact h.size x q
    · rw [List.mem_singleton.1 q]; exact txt_size hok
  · rw [hsl, cdK, cdK_pre ss _ ss.length (Nat.le_refl _), h.code, hlast, codC_eq hr]
  · rcases List.mem_append.1 hx with q | q
    · exact h.bytes x q
    · exact enc_bytes hok x q
theorem AsmD.nil : AsmD [] [] 0 0 := ⟨rfl, rfl, Nat.zero_le _, fun k hk => absurd hk (Nat.not_lt_zero _), fun x hx => (by cases hx), rfl, fun x hx => (by cases hx)⟩
theorem AsmD.asm {ss : List ByteArray} {ds : List Int} {i m : Nat} (h : AsmD ss ds i m) (hi : i ≤ 8) : asmF ss = (ds, 0) := by
  have := h.few
  rw [asm_yes (by rw [h.len]; omega) h.all (by rw [h.code, h.dlen]; omega), h.code]
theorem byB_own {w : World} {base n c : Nat} {A : Option Addr} {zs : List Nat} (hl : zs.length = n) (h : w.ownsRow base 5 1 (.slice A n c) n (zs.map fun z => .int .u8 (z : Nat))) (hz : ∀ z ∈ zs, z < 256) : ByB w w.heap.size A zs := fun i hi => by
  have hcell : ∀ (g : Nat), A = some ⟨g, 0, none⟩ → w.cell? ⟨g, i, none⟩ = some (.int .u8 (zs.getD i 0 : Nat)) := fun g e => by
    subst e
    rw [World.ownsRow.cellAt h i (by omega), List.getElem?_map, List.getElem?_eq_getElem hi, List.getD_eq_getElem?_getD, List.getElem?_eq_getElem hi]
    rfl
  rcases h.2 with ⟨h0, hn0⟩ | ⟨g, cap, cur, h0, _, hg, _⟩
  · omega
  · injection h0 with q1 q2 q3
    have hc := hcell g q1
    refine ⟨g, 0, q1, cell_lt hc, by rw [Nat.zero_add]; exact hc, ?_⟩
    rw [List.getD_eq_getElem?_getD, List.getElem?_eq_getElem hi]
    exact hz _ (List.getElem_mem _)
theorem byB_src {w : World} {lo : Nat} {A : Option Addr} {zs : List Nat} (h : ByB w lo A zs) (hn : 0 < zs.length) : ∃ ad, A = some ad ∧ ∀ j u, (zs.map fun z => Value.int .u8 (z : Nat))[j]? = some u → w.cell? (ad.add j) = some u := by
  obtain ⟨b, off, e, _⟩ := h 0 hn
  refine ⟨_, e, fun j u hj => ?_⟩
  have hj' : j < zs.length := by
    have := (List.getElem?_eq_some_iff.1 hj).1
    simpa using this
  obtain ⟨b', off', e', _, hc, _⟩ := h j hj'
  rw [e] at e'
  injection e' with e'
  injection e' with e1 e2 _
  subst e1 e2
  rw [addr_add, hc, ← hj, List.getElem?_map, List.getD_eq_getElem?_getD, List.getElem?_eq_getElem hj']
  rfl
theorem byB_lt {w : World} {lo : Nat} {A : Option Addr} {zs : List Nat} (h : ByB w lo A zs) : ∀ z ∈ zs, z < 256 := fun z hz => by
  obtain ⟨i, hi, rfl⟩ := List.getElem_of_mem hz
  obtain ⟨_, _, _, _, _, q⟩ := h i hi
  rwa [List.getD_eq_getElem?_getD, List.getElem?_eq_getElem hi] at q
theorem ownI_grow {w w' : World} {lo hi base n : Nat} {A : Option Addr} {zs : List Int} {e : TypeId} {size : Nat} {v : Value} {xs : List Value} (h : OwnI w lo hi A zs) (hr : w.ownsRow base e size v n xs) (ht : 3 ≠ e) (hg : w.grownBy w' v.ownBlock) : OwnI w' lo hi A zs := by
  rcases h with q | ⟨b, m, f, q0, q1, q2, q3, ⟨cur, c0, c1, c2⟩, q5⟩
  · exact .inl q
  · exact .inr ⟨b, m, f, q0, q1, q2, q3, ⟨cur, Box.grown (cs := cur) c0 hr ht hg, c1, c2⟩, q5⟩
end Go.Proofs.YtcchhbkbnbphhaaDoor

/- The contract of chip.cycle. -/
namespace Go.Proofs.YtcchhbkbnbphhaaDoor
open Go.RowKit

end Go.Proofs.YtcchhbkbnbphhaaDoor

/- The memory bus in plain words: which memories are valid, the regions, what a read gives and a write leaves. -/
namespace Go.Proofs.YtcchhbkbnbphhaaDoor
open Go.RowKit

def okMem (r i : List Int) (zs : List Int) (gs : List Bool) (st : Int) : Bool := (decide (r.length = 256) && decide (i.length = 32)) && ((r.all byB && i.all byB) && okFlash zs gs st)
theorem okMem_mk {r i zs : List Int} {gs : List Bool} {st : Int} (h1 : r.length = 256) (h2 : i.length = 32) (h3 : r.all byB = true) (h4 : i.all byB = true) (h5 : okFlash zs gs st = true) : okMem r i zs gs st = true := by
  unfold okMem; simp [h1, h2, h3, h4, h5]
theorem okMem_no1 (r i zs : List Int) (gs : List Bool) (st : Int) (h : r.length ≠ 256) : okMem r i zs gs st = false := by unfold okMem; simp [h]
theorem okMem_no2 (r i zs : List Int) (gs : List Bool) (st : Int) (h : i.length ≠ 32) : okMem r i zs gs st = false := by unfold okMem; simp [h]
theorem okMem_no3 (r i zs : List Int) (gs : List Bool) (st : Int) (h : r.all byB = false) : okMem r i zs gs st = false := by unfold okMem; simp [h]
theorem okMem_no4 (r i zs : List Int) (gs : List Bool) (st : Int) (h : i.all byB = false) : okMem r i zs gs st = false := by unfold okMem; simp [h]
theorem okMem_yes (r i zs : List Int) (gs : List Bool) (st : Int) (h1 : r.length = 256) (h2 : i.length = 32) (h3 : r.all byB = true) (h4 : i.all byB = true) : okMem r i zs gs st = okFlash zs gs st := by unfold okMem; simp [h1, h2, h3, h4]

end Go.Proofs.YtcchhbkbnbphhaaDoor

/- MemOK on both sides; impl.Mem.check; the regions on both sides. -/
namespace Go.Proofs.YtcchhbkbnbphhaaDoor
open Go.RowKit

section
variable (A0 A1 A2 A3 : Option Addr) (n0 n1 n2 n3 c0 c1 c2 c3 : Nat) (d0 d1 d2 : List Int) (d3 : List Bool) (d4 : Int) (w : World)
set_option maxRecDepth 100000 in
set_option maxHeartbeats 4000000 in
theorem memValid (l0 : d0.length = n0) (l1 : d1.length = n1) (l2 : d2.length = n2) (l3 : d3.length = n3) (m0 : n0 ≤ maxLen) (m1 : n1 ≤ maxLen) (m2 : n2 ≤ maxLen) (m3 : n3 ≤ maxLen) (h0 : IntL w A0 d0) (h1 : IntL w A1 d1) (h2 : IntL w A2 d2) :
    Calls Tryd.prog 42 #[.agg #[.slice A0 n0 c0, .slice A1 n1 c1, .slice A2 n2 c2, .slice A3 n3 c3, .int .i64 d4]] w fun e w' => e = .returned (.bool (okMem d0 d1 d2 d3 d4)) ∧ Below w.heap.size w w' := by
  have hb0 := alloc_below w (.cells #[.slice A0 n0 c0, .slice A1 n1 c1, .slice A2 n2 c2, .slice A3 n3 c3, .int .i64 d4] 46)
  have HB0 := Lib.hid (allBytes A0 n0 c0 d0 _ l0 m0 (h0.below hb0))
  have HB1 := Lib.hid (allBytes A1 n1 c1 d1 _ l1 m1 (h1.below hb0))
  have HF := Lib.hid (flashValid A2 A3 n2 c2 n3 c3 d4 d2 d3 _ l2 l3 m2 m3 (h2.below hb0))
  have HL := Lib.hid (And.intro l0 l1)
  unfold maxLen at m0 m1 m2 m3
  clear l0 l1 l2 l3 h0 h1 h2
  by_cases e0 : n0 = 256
  · have q0 : ((n0 : Int) == 256) = true := by simp; omega
    by_cases e1 : n1 = 32
    · have q1 : ((n1 : Int) == 32) = true := by simp; omega
      by_cases e2 : d0.all byB = true
      · by_cases e3 : d1.all byB = true
        · have HY := Lib.hid (okMem_yes d0 d1 d2 d3 d4 (by rw [HL.out.1]; exact e0) (by rw [HL.out.2]; exact e1) e2 e3)
          rw [e2] at HB0
          rw [e3] at HB1
          generalize okMem d0 d1 d2 d3 d4 = r at HY
          generalize okFlash d2 d3 d4 = o at HF HY
          clear e0 e1 e2 e3
          go_enter Tryd.func42, Tryd.ntmps42
          go_wp2_with fail
          refine HB0.out.mono ?_
          rintro e w' ⟨rfl, rfl⟩
          go_wp2_with fail
          refine HB1.out.mono ?_
          rintro e w' ⟨rfl, rfl⟩
          go_wp2_with fail
          refine HF.out.mono ?_
          rintro e w2 ⟨rfl, hb2⟩
          go_wp2
          all_goals go_ret
          all_goals exact ⟨ret_bool HY.out.symm, bt hb0 hb2⟩
        · have e3' : d1.all byB = false := by simpa using e3
          have HY := Lib.hid (okMem_no4 d0 d1 d2 d3 d4 e3')
          rw [e2] at HB0
          rw [e3'] at HB1
          clear e0 e1 e2 e3 e3'
          go_enter Tryd.func42, Tryd.ntmps42
          go_wp2_with fail
          refine HB0.out.mono ?_
          rintro e w' ⟨rfl, rfl⟩
          go_wp2_with fail
          refine HB1.out.mono ?_
          rintro e w' ⟨rfl, rfl⟩
          go_wp2
          all_goals go_ret
          all_goals exact ⟨ret_bool HY.out.symm, hb0⟩
      · have e2' : d0.all byB = false := by simpa using e2
        have HY := Lib.hid (okMem_no3 d0 d1 d2 d3 d4 e2')
        rw [e2'] at HB0
        clear e0 e1 e2 e2'
        go_enter Tryd.func42, Tryd.ntmps42
        go_wp2_with fail
        refine HB0.out.mono ?_
        rintro e w' ⟨rfl, rfl⟩
        go_wp2
        all_goals go_ret
        all_goals exact ⟨ret_bool HY.out.symm, hb0⟩
    · have q1 : ((n1 : Int) == 32) = false := by simp; omega
      have HY := Lib.hid (okMem_no2 d0 d1 d2 d3 d4 (by rw [HL.out.2]; exact e1))
      clear e0 e1
      go_enter Tryd.func42, Tryd.ntmps42
      go_wp2
      all_goals go_ret
      all_goals exact ⟨ret_bool HY.out.symm, hb0⟩
  · have q0 : ((n0 : Int) == 256) = false := by simp; omega
    have HY := Lib.hid (okMem_no1 d0 d1 d2 d3 d4 (by rw [HL.out.1]; exact e0))
    clear e0
    go_enter Tryd.func42, Tryd.ntmps42
    go_wp2
    all_goals go_ret
    all_goals exact ⟨ret_bool HY.out.symm, hb0⟩

end
end Go.Proofs.YtcchhbkbnbphhaaDoor

/- slices.Clone of a row of ints that is not empty; the chip's read. -/
namespace Go.Proofs.YtcchhbkbnbphhaaDoor
open Go.RowKit

end Go.Proofs.YtcchhbkbnbphhaaDoor

/- busOf: the four devices of a memory. -/
namespace Go.Proofs.YtcchhbkbnbphhaaDoor
open Go.RowKit

def YV (b : Nat) (W : World) (j : Nat) : Value := (W.cell? ⟨b, j, none⟩).getD undef
theorem YV.of {b : Nat} {W : World} {t : TypeId} {cs : Array Value} (h : Box W b t cs) (hs : cs.size = 4) (j : Nat) (hj : j < 4) : W.cell? ⟨b, j, none⟩ = some (YV b W j) := by
  have := h.cell j (Array.getElem?_eq_getElem (by omega : j < cs.size))
  unfold YV; rw [this]; rfl
theorem Box.box_ne {w : World} {b b' : Nat} {t t' : TypeId} {cs cs' : Array Value} (X : Box w b t cs) (Y : Box w b' t' cs') (ht : t ≠ t') : b ≠ b' := by
  rintro rfl
  have : some (Obj.cells cs t (0, 0)) = some (Obj.cells cs' t' (0, 0)) := X.symm.trans Y
  injection this with this
  injection this with _ this
  exact ht this
end Go.Proofs.YtcchhbkbnbphhaaDoor

/- The chip's identify and read; BusRead by way of the chip. -/
namespace Go.Proofs.YtcchhbkbnbphhaaDoor
open Go.RowKit

end Go.Proofs.YtcchhbkbnbphhaaDoor

/- The devices' methods. -/
namespace Go.Proofs.YtcchhbkbnbphhaaDoor
open Go.RowKit

section
variable (p0 p1 p2 p3 : Addr) (w : World)
end

theorem OwnI.awayB {w w' : World} {lo hi b : Nat} {A : Option Addr} {zs : List Int} {t : TypeId} {cs : Array Value} (h : OwnI w lo hi A zs) (X : Box w b t cs) (ht : t ≠ 3) (hb : Btw b (b + 1) w w') : OwnI w' lo hi A zs := by
  rcases h with e | ⟨g, m, f, e, h1, h2, hm, hr, hf⟩
  · exact .inl e
  · exact .inr ⟨g, m, f, e, h1, h2, hm, hb.row hr (by have := X.ne hr ht; omega), hf⟩
theorem Box.awayB {w w' : World} {b b' : Nat} {t t' : TypeId} {cs cs' : Array Value} (h : Box w b t cs) (X : Box w b' t' cs') (ht : t ≠ t') (hb : Btw b' (b' + 1) w w') : Box w' b t cs := h.btw hb (by have := h.box_ne X ht; omega)

section
variable {w w' : World} {lo g b0 b1 b2 b3 : Nat} {A0 A1 : Option Addr} {c0 c1 : Nat} {ram io zs : List Int} {gs : List Bool} {st : Int}
end

section
variable (lo g b0 b1 b2 b3 : Nat) (A0 A1 : Option Addr) (c0 c1 : Nat) (ram io zs : List Int) (gs : List Bool) (st : Int) (w : World)
end
end Go.Proofs.YtcchhbkbnbphhaaDoor

/- The model's bus cycle: l03Third, l03Write, BusWrite. -/
namespace Go.Proofs.YtcchhbkbnbphhaaDoor
open Go.RowKit

structure Tests (k v : Nat) (b1 b2 b3 b4 : Bool) : Prop where
  t1 : ((k : Int) == 85) = b1
  t2 : ((v : Int) == 170) = b2
  t3 : ((k : Int) == 42) = b3
  t4 : ((v : Int) == 85) = b4

end Go.Proofs.YtcchhbkbnbphhaaDoor

/- The model's bus cycle in the states that do more: a command, autoselect, programming, protecting, erasing. -/
namespace Go.Proofs.YtcchhbkbnbphhaaDoor
open Go.RowKit

theorem opened (A C : Option Addr) (c d : Nat) (w : World) :
    ∃ W, W = ((w.alloc (.cells #[.slice A 256 c, .slice C 16 d, .int .i64 0] 44)).alloc (.cells #[.slice none 0 0, .slice none 0 0, .int .i64 0] 44)) ∧ Below w.heap.size w W ∧ Box W w.heap.size 44 #[.slice A 256 c, .slice C 16 d, .int .i64 0] ∧ Box W (w.heap.size + 1) 44 #[.slice none 0 0, .slice none 0 0, .int .i64 0] := by
  have X0 := (Box.new w 44 #[.slice A 256 c, .slice C 16 d, .int .i64 0]).alloc (.cells #[.slice none 0 0, .slice none 0 0, .int .i64 0] 44)
  have Y0 := Box.new (w.alloc (.cells #[.slice A 256 c, .slice C 16 d, .int .i64 0] 44)) 44 #[.slice none 0 0, .slice none 0 0, .int .i64 0]
  have hs : (w.alloc (.cells #[.slice A 256 c, .slice C 16 d, .int .i64 0] 44)).heap.size = w.heap.size + 1 := by simp
  rw [hs] at Y0
  exact ⟨_, rfl, bt (alloc_below _ _) (alloc_below _ _), X0, Y0⟩

end Go.Proofs.YtcchhbkbnbphhaaDoor

/- The model's bus cycle in the state of erasing. -/
namespace Go.Proofs.YtcchhbkbnbphhaaDoor
open Go.RowKit

end Go.Proofs.YtcchhbkbnbphhaaDoor
