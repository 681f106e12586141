/- Texts of this claim, one behind the other: CodeMath, DrawInstr, InstrLaws. -/
import Derived.Test.YtcchhbkbnbphhaaDoorRead
import Derived.Test.YtcchhbkbnbphhaaDoorTxt4
import Derived.ProofKit
import Derived.Laws.StructEq
import Derived.Test.YtcchhbkbnbphhaaDoorM5
/- What is read out of an instruction's own text and bytes. Nothing here walks. -/
namespace Go.Proofs.YtcchhbkbnbphhaaDoor
open Go.RowKit

def okWd (l : List UInt8) : Bool := !l.isEmpty && l.all (fun c => c != 32)
theorem okWd_ne {l : List UInt8} (h : okWd l = true) : l ≠ [] ∧ ∀ k : Nat, l[k]? ≠ some 32 := by
  simp only [okWd, Bool.and_eq_true] at h
  refine ⟨fun e => by simp [e] at h, fun k hk => ?_⟩
  have := List.all_eq_true.1 h.2 32 (List.mem_of_getElem? hk)
  simp at this
theorem words_last {l : List UInt8} (h : okWd l = true) : wordsA [] l = [l] := by
  obtain ⟨h1, h2⟩ := okWd_ne h
  rw [wordsA_none l [] h2]; simp [h1]
theorem words_app {l r : List UInt8} (h : okWd l = true) : wordsA [] (l ++ 32 :: r) = l :: wordsA [] r := by
  obtain ⟨h1, h2⟩ := okWd_ne h
  rw [wordsA_some (l ++ 32 :: r) [] l.length (by simp) (fun k hk => by rw [List.getElem?_append_left hk]; exact h2 k)]
  simp [h1]
theorem opWords_ok : (List.range 22).all (fun k => okWd (opWord k).data.toList && decide (opOf (opWord k) = some (k : Int))) = true := by kernel_rfl
theorem nums_ok : (List.range 4096).all (fun n => okWd (decF 4 n) && (natL (decF 4 n) && (numOf (decF 4 n) == n))) = true := by kernel_rfl
theorem opWord_ok (k : Nat) (h : k < 22) : okWd (opWord k).data.toList = true ∧ opOf (opWord k) = some (k : Int) := by
  have := List.all_eq_true.1 opWords_ok k (List.mem_range.2 h)
  simpa using this
theorem num_ok (n : Int) (h0 : 0 ≤ n) (h1 : n ≤ 4095) : okWd (num n).data.toList = true ∧ natW (num n) = true ∧ numV (num n) = n := by
  have e : num n = bs (decF 4 n.toNat) := by unfold num; rw [dec_digits 3 n.toNat (by omega)]
  have := List.all_eq_true.1 nums_ok n.toNat (List.mem_range.2 (by omega))
  simp only [Bool.and_eq_true, beq_iff_eq] at this
  obtain ⟨h2, h3, h4⟩ := this
  rw [e]
  unfold natW numV natV
  rw [bs_toList]
  refine ⟨h2, h3, ?_⟩
  rw [if_pos h3, h4]; omega
theorem sp_app (a b : ByteArray) : a ++ ((⟨#[32]⟩ : ByteArray) ++ b) = bs (a.data.toList ++ 32 :: b.data.toList) := by
  have h : ((⟨#[32]⟩ : ByteArray)) = bs [32] := rfl
  conv => lhs; rw [← bs_of a, ← bs_of b, h, bs_app, bs_app]
  rfl
theorem words_one {a : ByteArray} (h : okWd a.data.toList = true) : wordsB a = [a] := by
  unfold wordsB; rw [words_last h]; simp [bs_of]
theorem words_two {a b : ByteArray} (h : okWd a.data.toList = true) (k : okWd b.data.toList = true) : wordsB (a ++ ((⟨#[32]⟩ : ByteArray) ++ b)) = [a, b] := by
  rw [sp_app, wordsB_bs, words_app h, words_last k]; simp [bs_of]
theorem words_three {a b c : ByteArray} (h : okWd a.data.toList = true) (k : okWd b.data.toList = true) (m : okWd c.data.toList = true) : wordsB (a ++ ((⟨#[32]⟩ : ByteArray) ++ b) ++ ((⟨#[32]⟩ : ByteArray) ++ c)) = [a, b, c] := by
  rw [sp_app a b, sp_app, bs_toList, wordsB_bs, List.append_assoc, List.cons_append, words_app h, words_app k, words_last m]; simp [bs_of]
theorem rd_txt {op reg arg : Int} (h : okIns op reg arg = true) : rdF (txtB op reg arg) = ((op, reg, arg), true) := by
  obtain ⟨h1, h2, h3, h4, h5, h6⟩ := okIns_iff h
  obtain ⟨k, rfl⟩ : ∃ k : Nat, op = k := ⟨op.toNat, by omega⟩
  have hr := regT_range (k : Int)
  have ha := argT_range (k : Int)
  obtain ⟨w1, w2⟩ := opWord_ok k (by omega)
  obtain ⟨r1, r2, r3⟩ := num_ok reg h3 (by omega)
  obtain ⟨a1, a2, a3⟩ := num_ok arg h5 (by omega)
  unfold rdF txtB valsL
  rw [Int.toNat_natCast]
  by_cases g1 : 0 < regT (k : Int) <;> by_cases g2 : 0 < argT (k : Int)
  · rw [if_pos g1, if_pos g2]
    show rdW (wordsB (opWord k ++ ((⟨#[32]⟩ : ByteArray) ++ num reg) ++ ((⟨#[32]⟩ : ByteArray) ++ num arg))) = _
    rw [words_three w1 r1 a1]
    have e1 : insR k [opWord k, num reg, num arg] = reg := by unfold insR; rw [if_pos g1]; exact r3
    have e3 : cntN (k : Int) = 2 := by unfold cntN; rw [if_pos g1, if_pos g2]
    have e2 : insA k [opWord k, num reg, num arg] = arg := by unfold insA; rw [if_pos g2, e3]; exact a3
    rw [rdW_yes (ws := [opWord k, num reg, num arg]) (op := k) w2 ⟨by rw [e3]; rfl, by simp [r2, a2], by rw [e1, e2]; exact h⟩, e1, e2]
  · rw [if_pos g1, if_neg g2]
    show rdW (wordsB (opWord k ++ ((⟨#[32]⟩ : ByteArray) ++ num reg))) = _
    rw [words_two w1 r1]
    have e1 : insR k [opWord k, num reg] = reg := by unfold insR; rw [if_pos g1]; exact r3
    have e3 : cntN (k : Int) = 1 := by unfold cntN; rw [if_pos g1, if_neg g2]
    have e2 : insA k [opWord k, num reg] = arg := by unfold insA; rw [if_neg g2]; omega
    rw [rdW_yes (ws := [opWord k, num reg]) (op := k) w2 ⟨by rw [e3]; rfl, by simp [r2], by rw [e1, e2]; exact h⟩, e1, e2]
  · rw [if_neg g1, if_pos g2]
    show rdW (wordsB (opWord k ++ ((⟨#[32]⟩ : ByteArray) ++ num arg))) = _
    rw [words_two w1 a1]
    have e1 : insR k [opWord k, num arg] = reg := by unfold insR; rw [if_neg g1]; omega
    have e3 : cntN (k : Int) = 1 := by unfold cntN; rw [if_neg g1, if_pos g2]
    have e2 : insA k [opWord k, num arg] = arg := by unfold insA; rw [if_pos g2, e3]; exact a3
    rw [rdW_yes (ws := [opWord k, num arg]) (op := k) w2 ⟨by rw [e3]; rfl, by simp [a2], by rw [e1, e2]; exact h⟩, e1, e2]
  · rw [if_neg g1, if_neg g2]
    show rdW (wordsB (opWord k)) = _
    rw [words_one w1]
    have e1 : insR k [opWord k] = reg := by unfold insR; rw [if_neg g1]; omega
    have e3 : cntN (k : Int) = 0 := by unfold cntN; rw [if_neg g1, if_neg g2]
    have e2 : insA k [opWord k] = arg := by unfold insA; rw [if_neg g2]; omega
    rw [rdW_yes (ws := [opWord k]) (op := k) w2 ⟨by rw [e3]; rfl, by simp, by rw [e1, e2]; exact h⟩, e1, e2]
theorem arg_of_len (op : Int) (h0 : 0 ≤ op ∧ op ≤ 21) : (lenT op = 1 → argT op = 0) ∧ (lenT op = 2 → argT op ≤ 255) ∧ (lenT op = 3 → argT op ≤ 4095) := by
  unfold lenT argT
  refine ⟨?_, ?_, ?_⟩ <;> (repeat' split) <;> omega
theorem dcd_enc {op reg arg x y : Int} (h : okIns op reg arg = true) (hx : 0 ≤ x ∧ x ≤ 255) (hy : 0 ≤ y ∧ y ≤ 255) :
    dcdF ((encL op reg arg ++ [x, y]).getD 0 0) ((encL op reg arg ++ [x, y]).getD 1 0) ((encL op reg arg ++ [x, y]).getD 2 0) = ((op, reg, arg), 0) := by
  obtain ⟨h1, h2, h3, h4, h5, h6⟩ := okIns_iff h
  have hr := regT_range op
  obtain ⟨l1, l2, l3⟩ := arg_of_len op ⟨h1, h2⟩
  have hl := lenT_range op
  have e1 : (8 * op + reg) / 8 = op := by omega
  have e2 : (8 * op + reg) % 8 = reg := by omega
  have hl3 : lenT op = 1 ∨ lenT op = 2 ∨ lenT op = 3 := by omega
  rcases hl3 with g | g | g
  · have := l1 g
    rw [encL_1 op reg arg g]
    show dcdF (8 * op + reg) x y = _
    rw [dcdF_t ⟨⟨by omega, by omega⟩, hx, hy⟩]
    have d : decArg (8 * op + reg) x y = arg := by unfold decArg; rw [e1, if_neg (by omega), if_neg (by omega)]; omega
    unfold decV
    rw [d, e1, e2, if_pos h]
  · have := l2 g
    rw [encL_2 op reg arg g h5 (by omega)]
    show dcdF (8 * op + reg) arg x = _
    rw [dcdF_t ⟨⟨by omega, by omega⟩, ⟨by omega, by omega⟩, hx⟩]
    unfold decV decArg
    rw [e1, e2, if_pos g, if_pos h]
  · have := l3 g
    rw [encL_3 op reg arg g h5 (by omega)]
    show dcdF (8 * op + reg) (arg % 256) (arg / 256) = _
    rw [dcdF_t ⟨⟨by omega, by omega⟩, ⟨by omega, by omega⟩, ⟨by omega, by omega⟩⟩]
    have d : decArg (8 * op + reg) (arg % 256) (arg / 256) = arg := by unfold decArg; rw [e1, if_neg (by omega), if_pos g]; omega
    unfold decV
    rw [d, e1, e2, if_pos h]
theorem dcd_any {a b c : Int} (h : (0 ≤ a ∧ a ≤ 255) ∧ (0 ≤ b ∧ b ≤ 255) ∧ (0 ≤ c ∧ c ≤ 255)) : (dcdF a b c).2 = 0 ∧ ((dcdF a b c).1.1 = 22 ∨ okIns (dcdF a b c).1.1 (dcdF a b c).1.2.1 (dcdF a b c).1.2.2 = true) := by
  rw [dcdF_t h]
  refine ⟨rfl, ?_⟩
  unfold decV
  split
  · rename_i g; exact .inr g
  · exact .inl rfl
theorem txt_size {op reg arg : Int} (h : okIns op reg arg = true) : (txtB op reg arg).size ≤ 65536 := by
  obtain ⟨h1, h2, h3, h4, h5, h6⟩ := okIns_iff h
  have hr := regT_range op
  have ha := argT_range op
  have w := opWord_len op.toNat
  have n1 := num_len reg (by omega)
  have n2 := num_len arg (by omega)
  have sp : ∀ a b : ByteArray, (a ++ ((⟨#[32]⟩ : ByteArray) ++ b)).size = a.size + (1 + b.size) := fun a b => by rw [ByteArray.size_append, ByteArray.size_append]; rfl
  unfold txtB valsL
  by_cases g1 : 0 < regT op <;> by_cases g2 : 0 < argT op
  · rw [if_pos g1, if_pos g2]
    show (opWord op.toNat ++ ((⟨#[32]⟩ : ByteArray) ++ num reg) ++ ((⟨#[32]⟩ : ByteArray) ++ num arg)).size ≤ 65536
    rw [sp, sp]; omega
  · rw [if_pos g1, if_neg g2]
    show (opWord op.toNat ++ ((⟨#[32]⟩ : ByteArray) ++ num reg)).size ≤ 65536
    rw [sp]; omega
  · rw [if_neg g1, if_pos g2]
    show (opWord op.toNat ++ ((⟨#[32]⟩ : ByteArray) ++ num arg)).size ≤ 65536
    rw [sp]; omega
  · rw [if_neg g1, if_neg g2]
    show (opWord op.toNat).size ≤ 65536
    omega
end Go.Proofs.YtcchhbkbnbphhaaDoor

/- The source's instruction: a drawn valid one. Written by gen_instr.py. -/
namespace Go.Proofs.YtcchhbkbnbphhaaDoor
open Go.RowKit

theorem btw_all {l r : Nat} {w w' : World} (h : Below w.heap.size w w') : Btw l r w w' := ⟨h.os, h.tape, h.output, h.size, fun k hk _ => h.block k hk⟩
theorem ok_drawn {op reg arg : Nat} (h1 : op < 22) (h2 : (5 ≤ op ∧ op ≤ 14 ∧ reg < 4) ∨ (¬ (5 ≤ op ∧ op ≤ 14) ∧ reg = 0))
    (h3 : (op = 21 ∧ arg < 4) ∨ (op ≠ 21 ∧ lenT op = 2 ∧ arg < 256) ∨ (op ≠ 21 ∧ lenT op = 3 ∧ arg < 4096) ∨ (op ≠ 21 ∧ lenT op = 1 ∧ arg = 0)) : okIns (op : Int) (reg : Int) (arg : Int) = true := by
  have hr : (5 ≤ op ∧ op ≤ 14 → regT op = 3) ∧ 0 ≤ regT op := ⟨fun h => by unfold regT; rw [if_pos (by omega)], (regT_range op).1⟩
  have ha := arg_len (op : Int)
  have h0 := (argT_range (op : Int)).1
  have h21 : op = 21 → argT op = 3 := fun h => by subst h; decide
  unfold okIns
  rw [decide_eq_true_eq]
  refine ⟨by omega, by omega, by omega, ?_, by omega, ?_⟩
  · rcases h2 with h | h
    · rw [hr.1 ⟨h.1, h.2.1⟩]; omega
    · omega
  · rcases h3 with h | h | h | h
    · rw [h21 h.1]; omega
    · rw [ha (by omega), h.2.1]; simp; omega
    · rw [ha (by omega), h.2.1]; simp; omega
    · omega
def GivesIns (b : Nat) (A : Option Addr) (n c : Nat) (zs : List Nat) (K : Nat) (w : World) (e : Ending) (w' : World) : Prop :=
  ∃ op reg arg : Int, e = .returned (.agg #[.int .i64 op, .int .i64 reg, .int .i64 arg]) ∧ okIns op reg arg = true ∧ Hid (Src w' b A n c zs K) ∧ Btw b (b + 1) w w'
theorem btw_low {b : Nat} {w w1 w2 : World} (h : Btw b (b + 1) w w1) (hb : Below w.heap.size w1 w2) : Btw b (b + 1) w w2 :=
  ⟨hb.os.trans h.os, hb.tape.trans h.tape, hb.output.trans h.output, Nat.le_trans h.size hb.size, fun k hk ho => (hb.block k hk).trans (h.block k hk ho)⟩
theorem fin_keep {b D : Nat} {A : Option Addr} {n c : Nat} {zs : List Nat} {K K' : Nat} {w W W' : World} (hb : b < w.heap.size) (_h1 : w.heap.size ≤ D) (hq : Below w.heap.size W W') (S : Src W b A n c zs K') (B : Btw b (b + 1) w W) (hk : K' ≤ K + 9) : Hid (Src W' b A n c zs (K + 9)) ∧ Btw b (b + 1) w W' :=
  ⟨Lib.hid ((S.below hq hb).mono hk), btw_low B hq⟩
theorem four_set {W : World} {D R B : Nat} (u a0 a1 a2 : Value) (h1 : B ≤ D) (h2 : B ≤ R) : Below B W ((((W.setCell ⟨D, 2, none⟩ u).setCell ⟨R, 0, none⟩ a0).setCell ⟨R, 1, none⟩ a1).setCell ⟨R, 2, none⟩ a2) :=
  ((((Below.refl _ _).setCell (p := ⟨D, 2, none⟩) h1 _).setCell (p := ⟨R, 0, none⟩) h2 _).setCell (p := ⟨R, 1, none⟩) h2 _).setCell (p := ⟨R, 2, none⟩) h2 _
theorem three_set {W : World} {R B : Nat} (a0 a1 a2 : Value) (h2 : B ≤ R) : Below B W (((W.setCell ⟨R, 0, none⟩ a0).setCell ⟨R, 1, none⟩ a1).setCell ⟨R, 2, none⟩ a2) :=
  (((Below.refl _ _).setCell (p := ⟨R, 0, none⟩) h2 _).setCell (p := ⟨R, 1, none⟩) h2 _).setCell (p := ⟨R, 2, none⟩) h2 _
set_option maxHeartbeats 8000000 in
set_option maxRecDepth 100000 in
theorem instrDraw (b : Nat) (A : Option Addr) (n c : Nat) (zs : List Nat) (K : Nat) (w : World) (hK : K ≤ 1000) (h : Src w b A n c zs K) : Calls Tryd.prog 22 #[.pointer (some ⟨b, 0, none⟩)] w (GivesIns b A n c zs (K + 9) w) := by
  have hbw := h.lt
  obtain ⟨W0, hW0⟩ : ∃ W0, W0 = w.alloc (.cells #[.int .i64 0, .int .i64 0, .int .i64 0] 24) := ⟨_, rfl⟩
  have hb0 : Below w.heap.size w W0 := by rw [hW0]; exact alloc_below _ _
  have X : Hid (Box W0 w.heap.size 24 #[.int .i64 0, .int .i64 0, .int .i64 0]) := Lib.hid (by rw [hW0]; exact Box.new _ _ _)
  have S : Hid (Src W0 b A n c zs K) := Lib.hid (h.below hb0 hbw)
  have HB : Hid (Btw b (b + 1) w W0) := Lib.hid (btw_all hb0)
  have HW0 := Lib.hid hW0
  have hsz0 : w.heap.size < W0.heap.size := X.out.lt
  clear hW0 hb0 h
  go_enter Tryd.func22, Tryd.ntmps22
  go_wp2_with fail
  rw [← HW0.out]
  refine (srcNext 22 b A n c zs K W0 (by omega) (by omega) (by omega) S.out).mono ?_
  rintro e w1 ⟨v, rfl, hv, S1, hb⟩
  replace HB := Lib.hid (HB.out.trans hb)
  replace X := Lib.hid (X.out.btw hb (.inr (by omega)))
  have hsz1 : w.heap.size < w1.heap.size := X.out.lt
  clear S HW0 hb
  obtain ⟨W2, hW2⟩ : ∃ W2, W2 = w1.alloc (.cells #[.int .i64 (v : Int), .int .i64 0, .int .i64 0] 24) := ⟨_, rfl⟩
  have hb2 : Below w1.heap.size w1 W2 := by rw [hW2]; exact alloc_below _ _
  have Y : Hid (Box W2 w1.heap.size 24 #[.int .i64 (v : Int), .int .i64 0, .int .i64 0]) := Lib.hid (by rw [hW2]; exact Box.new _ _ _)
  replace X := Lib.hid (X.out.step hb2)
  have S : Hid (Src W2 b A n c zs (K + 1)) := Lib.hid (S1.out.below hb2 (by omega))
  replace HB : Hid (Btw b (b + 1) w W2) := Lib.hid (HB.out.trans (btw_all hb2))
  clear hb2 S1
  have HRg := Lib.hid (l07RegA (v : Int))
  have HLn := Lib.hid (l07LengthA (v : Int))
  have y0 := Y.out.cell 0 rfl
  rw [hW2] at y0
  go_wp2_with fail
  rw [← hW2]
  clear hW2 y0
  obtain ⟨D, hD⟩ : ∃ D, D = w1.heap.size := ⟨_, rfl⟩
  rw [← hD] at Y hsz1 ⊢
  clear hD
  have hne1 : ¬ D = w.heap.size := by omega
  have hne2 : ¬ w.heap.size = D := by omega
  refine (HRg.out W2).mono ?_
  rintro e _ ⟨rfl, rfl⟩
  by_cases hr : 5 ≤ v ∧ v ≤ 14
  · rw [show rngB (v : Int) 5 14 = true by unfold rngB; simp; omega]
    go_wp2_with fail
    refine (srcNext 4 b A n c zs (K + 1) _ (by omega) (by omega) (by omega) S.out).mono ?_
    rintro e wrg ⟨rg, rfl, hrg, S9, hb⟩
    replace HB := Lib.hid (HB.out.trans hb)
    replace X := Lib.hid (X.out.btw hb (.inr (by omega)))
    replace Y := Lib.hid (Y.out.btw hb (.inr (by omega)))
    replace S := S9
    clear S9 hb
    have y0 := Y.out.cell 0 rfl
    have y1 := Y.out.cell 1 rfl
    have yz := Y.out.frozen 1
    have i21 : ¬ (v : Int) = 21 := by omega
    obtain ⟨W4, hW4⟩ : ∃ W4, W4 = wrg.setCell ⟨D, 1, none⟩ (.int .i64 (rg : Int)) := ⟨_, rfl⟩
    have k4 : Btw D (D + 1) wrg W4 := by rw [hW4]; exact (Btw.refl D (D + 1) wrg).setCell (p := ⟨D, 1, none⟩) (Nat.le_refl _) (Nat.lt_succ_self _) _
    have q4 : Below w.heap.size wrg W4 := (k4.below (Nat.le_of_lt Y.out.lt)).mono (by omega)
    have Y4 : Hid (Box W4 D 24 #[.int .i64 (v : Int), .int .i64 (rg : Int), .int .i64 0]) := Lib.hid (by rw [hW4]; exact Y.out.set 1 _)
    replace X := Lib.hid (X.out.btw k4 (.inl (by omega)))
    replace S := Lib.hid (S.out.below q4 hbw)
    replace HB := Lib.hid (btw_low HB.out q4)
    replace Y := Y4
    clear Y4 k4 q4
    go_wp2_with fail
    rw [← hW4]
    clear hW4 y0 y1 yz i21
    have h21 : ¬ v = 21 := by omega
    refine (HLn.out _).mono ?_
    rintro e _ ⟨rfl, rfl⟩
    have y0 := Y.out.cell 0 rfl
    have hlen := lenT_range (v : Int)
    rcases (by omega : lenT (v : Int) = 2 ∨ lenT (v : Int) = 3 ∨ lenT (v : Int) = 1) with hl | hl | hl
    · rw [hl]
      go_wp2_with fail
      refine (srcNext 256 b A n c zs (K + 1 + 1) _ (by omega) (by omega) (by omega) S.out).mono ?_
      rintro e wag ⟨ag, rfl, hag, S9, hb⟩
      replace HB := Lib.hid (HB.out.trans hb)
      replace X := Lib.hid (X.out.btw hb (.inr (by omega)))
      replace Y := Lib.hid (Y.out.btw hb (.inr (by omega)))
      replace S := S9
      clear S9 hb
      clear y0
      have y0 := Y.out.cell 0 rfl
      have y1 := Y.out.cell 1 rfl
      have y2 := Y.out.cell 2 rfl
      have yz := Y.out.frozen 2
      have x0 := X.out.cell 0 rfl
      have x1 := X.out.cell 1 rfl
      have x2 := X.out.cell 2 rfl
      have z0 := X.out.frozen 0
      have z1 := X.out.frozen 1
      have z2 := X.out.frozen 2
      have HOk : Hid (okIns (v : Int) (rg : Int) (ag : Int) = true) := Lib.hid (ok_drawn hv (.inl ⟨hr.1, hr.2, hrg⟩) (.inr (.inl ⟨h21, hl, hag⟩)))
      go_wp2
      refine bodyPost_ret (v := .agg #[.int .i64 (v : Int), .int .i64 rg, .int .i64 ag]) (by simp [results, Tryd.results22, go_sem, x0, x1, x2]) rfl ?_
      refine ⟨_, _, _, rfl, HOk.out, ?_⟩
      exact fin_keep (D := D) hbw (by omega) (four_set _ _ _ _ (by omega) (Nat.le_refl _)) S.out HB.out (by omega)
    · rw [hl]
      go_wp2_with fail
      refine (HLn.out _).mono ?_
      rintro e _ ⟨rfl, rfl⟩
      rw [hl]
      go_wp2_with fail
      refine (srcNextBig 4096 b A n c zs (K + 1 + 1) _ (by omega) (by omega) (by omega) S.out).mono ?_
      rintro e wag ⟨ag, rfl, hag, S9, hb⟩
      replace HB := Lib.hid (HB.out.trans hb)
      replace X := Lib.hid (X.out.btw hb (.inr (by omega)))
      replace Y := Lib.hid (Y.out.btw hb (.inr (by omega)))
      replace S := S9
      clear S9 hb
      clear y0
      have y0 := Y.out.cell 0 rfl
      have y1 := Y.out.cell 1 rfl
      have y2 := Y.out.cell 2 rfl
      have yz := Y.out.frozen 2
      have x0 := X.out.cell 0 rfl
      have x1 := X.out.cell 1 rfl
      have x2 := X.out.cell 2 rfl
      have z0 := X.out.frozen 0
      have z1 := X.out.frozen 1
      have z2 := X.out.frozen 2
      have HOk : Hid (okIns (v : Int) (rg : Int) (ag : Int) = true) := Lib.hid (ok_drawn hv (.inl ⟨hr.1, hr.2, hrg⟩) (.inr (.inr (.inl ⟨h21, hl, hag⟩))))
      go_wp2
      refine bodyPost_ret (v := .agg #[.int .i64 (v : Int), .int .i64 rg, .int .i64 ag]) (by simp [results, Tryd.results22, go_sem, x0, x1, x2]) rfl ?_
      refine ⟨_, _, _, rfl, HOk.out, ?_⟩
      exact fin_keep (D := D) hbw (by omega) (four_set _ _ _ _ (by omega) (Nat.le_refl _)) S.out HB.out (by omega)
    · rw [hl]
      go_wp2_with fail
      refine (HLn.out _).mono ?_
      rintro e _ ⟨rfl, rfl⟩
      rw [hl]
      clear y0
      have y0 := Y.out.cell 0 rfl
      have y1 := Y.out.cell 1 rfl
      have y2 := Y.out.cell 2 rfl
      have x0 := X.out.cell 0 rfl
      have x1 := X.out.cell 1 rfl
      have x2 := X.out.cell 2 rfl
      have z0 := X.out.frozen 0
      have z1 := X.out.frozen 1
      have z2 := X.out.frozen 2
      have HOk : Hid (okIns (v : Int) (rg : Int) (0 : Int) = true) := Lib.hid (ok_drawn hv (.inl ⟨hr.1, hr.2, hrg⟩) (.inr (.inr (.inr ⟨h21, hl, rfl⟩))))
      go_wp2
      refine bodyPost_ret (v := .agg #[.int .i64 (v : Int), .int .i64 rg, .int .i64 0]) (by simp [results, Tryd.results22, go_sem, x0, x1, x2]) rfl ?_
      refine ⟨_, _, _, rfl, HOk.out, ?_⟩
      exact fin_keep (D := D) hbw (by omega) (three_set _ _ _ (Nat.le_refl _)) S.out HB.out (by omega)
  · rw [show rngB (v : Int) 5 14 = false by unfold rngB; simp; omega]
    have y0 := Y.out.cell 0 rfl
    by_cases h21 : v = 21
    · have i21 : (v : Int) = 21 := by omega
      go_wp2_with fail
      refine (srcNext 4 b A n c zs (K + 1) _ (by omega) (by omega) (by omega) S.out).mono ?_
      rintro e wag ⟨ag, rfl, hag, S9, hb⟩
      replace HB := Lib.hid (HB.out.trans hb)
      replace X := Lib.hid (X.out.btw hb (.inr (by omega)))
      replace Y := Lib.hid (Y.out.btw hb (.inr (by omega)))
      replace S := S9
      clear S9 hb
      clear y0
      have y0 := Y.out.cell 0 rfl
      have y1 := Y.out.cell 1 rfl
      have y2 := Y.out.cell 2 rfl
      have yz := Y.out.frozen 2
      have x0 := X.out.cell 0 rfl
      have x1 := X.out.cell 1 rfl
      have x2 := X.out.cell 2 rfl
      have z0 := X.out.frozen 0
      have z1 := X.out.frozen 1
      have z2 := X.out.frozen 2
      have HOk : Hid (okIns (v : Int) (0 : Int) (ag : Int) = true) := Lib.hid (ok_drawn hv (.inr ⟨by omega, rfl⟩) (.inl ⟨h21, hag⟩))
      go_wp2
      refine bodyPost_ret (v := .agg #[.int .i64 (v : Int), .int .i64 0, .int .i64 ag]) (by simp [results, Tryd.results22, go_sem, x0, x1, x2, i21]) rfl ?_
      refine ⟨_, _, _, rfl, HOk.out, ?_⟩
      exact fin_keep (D := D) hbw (by omega) (four_set _ _ _ _ (by omega) (Nat.le_refl _)) S.out HB.out (by omega)
    · have i21 : ¬ (v : Int) = 21 := by omega
      go_wp2_with fail
      refine (HLn.out _).mono ?_
      rintro e _ ⟨rfl, rfl⟩
      have hlen := lenT_range (v : Int)
      rcases (by omega : lenT (v : Int) = 2 ∨ lenT (v : Int) = 3 ∨ lenT (v : Int) = 1) with hl | hl | hl
      · rw [hl]
        go_wp2_with fail
        refine (srcNext 256 b A n c zs (K + 1) _ (by omega) (by omega) (by omega) S.out).mono ?_
        rintro e wag ⟨ag, rfl, hag, S9, hb⟩
        replace HB := Lib.hid (HB.out.trans hb)
        replace X := Lib.hid (X.out.btw hb (.inr (by omega)))
        replace Y := Lib.hid (Y.out.btw hb (.inr (by omega)))
        replace S := S9
        clear S9 hb
        clear y0
        have y0 := Y.out.cell 0 rfl
        have y1 := Y.out.cell 1 rfl
        have y2 := Y.out.cell 2 rfl
        have yz := Y.out.frozen 2
        have x0 := X.out.cell 0 rfl
        have x1 := X.out.cell 1 rfl
        have x2 := X.out.cell 2 rfl
        have z0 := X.out.frozen 0
        have z1 := X.out.frozen 1
        have z2 := X.out.frozen 2
        have HOk : Hid (okIns (v : Int) (0 : Int) (ag : Int) = true) := Lib.hid (ok_drawn hv (.inr ⟨by omega, rfl⟩) (.inr (.inl ⟨h21, hl, hag⟩)))
        go_wp2
        refine bodyPost_ret (v := .agg #[.int .i64 (v : Int), .int .i64 0, .int .i64 ag]) (by simp [results, Tryd.results22, go_sem, x0, x1, x2]) rfl ?_
        refine ⟨_, _, _, rfl, HOk.out, ?_⟩
        exact fin_keep (D := D) hbw (by omega) (four_set _ _ _ _ (by omega) (Nat.le_refl _)) S.out HB.out (by omega)
      · rw [hl]
        go_wp2_with fail
        refine (HLn.out _).mono ?_
        rintro e _ ⟨rfl, rfl⟩
        rw [hl]
        go_wp2_with fail
        refine (srcNextBig 4096 b A n c zs (K + 1) _ (by omega) (by omega) (by omega) S.out).mono ?_
        rintro e wag ⟨ag, rfl, hag, S9, hb⟩
        replace HB := Lib.hid (HB.out.trans hb)
        replace X := Lib.hid (X.out.btw hb (.inr (by omega)))
        replace Y := Lib.hid (Y.out.btw hb (.inr (by omega)))
        replace S := S9
        clear S9 hb
        clear y0
        have y0 := Y.out.cell 0 rfl
        have y1 := Y.out.cell 1 rfl
        have y2 := Y.out.cell 2 rfl
        have yz := Y.out.frozen 2
        have x0 := X.out.cell 0 rfl
        have x1 := X.out.cell 1 rfl
        have x2 := X.out.cell 2 rfl
        have z0 := X.out.frozen 0
        have z1 := X.out.frozen 1
        have z2 := X.out.frozen 2
        have HOk : Hid (okIns (v : Int) (0 : Int) (ag : Int) = true) := Lib.hid (ok_drawn hv (.inr ⟨by omega, rfl⟩) (.inr (.inr (.inl ⟨h21, hl, hag⟩))))
        go_wp2
        refine bodyPost_ret (v := .agg #[.int .i64 (v : Int), .int .i64 0, .int .i64 ag]) (by simp [results, Tryd.results22, go_sem, x0, x1, x2]) rfl ?_
        refine ⟨_, _, _, rfl, HOk.out, ?_⟩
        exact fin_keep (D := D) hbw (by omega) (four_set _ _ _ _ (by omega) (Nat.le_refl _)) S.out HB.out (by omega)
      · rw [hl]
        go_wp2_with fail
        refine (HLn.out _).mono ?_
        rintro e _ ⟨rfl, rfl⟩
        rw [hl]
        clear y0
        have y0 := Y.out.cell 0 rfl
        have y1 := Y.out.cell 1 rfl
        have y2 := Y.out.cell 2 rfl
        have x0 := X.out.cell 0 rfl
        have x1 := X.out.cell 1 rfl
        have x2 := X.out.cell 2 rfl
        have z0 := X.out.frozen 0
        have z1 := X.out.frozen 1
        have z2 := X.out.frozen 2
        have HOk : Hid (okIns (v : Int) (0 : Int) (0 : Int) = true) := Lib.hid (ok_drawn hv (.inr ⟨by omega, rfl⟩) (.inr (.inr (.inr ⟨h21, hl, rfl⟩))))
        go_wp2
        refine bodyPost_ret (v := .agg #[.int .i64 (v : Int), .int .i64 0, .int .i64 0]) (by simp [results, Tryd.results22, go_sem, x0, x1, x2]) rfl ?_
        refine ⟨_, _, _, rfl, HOk.out, ?_⟩
        exact fin_keep (D := D) hbw (by omega) (three_set _ _ _ (Nat.le_refl _)) S.out HB.out (by omega)
end Go.Proofs.YtcchhbkbnbphhaaDoor

/- Drawn instructions; instructions that are compared; what the calls of FnCode and FnAssemble answer at a valid instruction. -/
namespace Go.Proofs.YtcchhbkbnbphhaaDoor
open Go.RowKit

theorem own_row {w : World} {lo hi : Nat} {A : Option Addr} {n c : Nat} {zs : List Int} (_hl : zs.length = n) (h : OwnL w lo hi (.slice A n c) (.I zs)) : OwnI w lo hi A zs := by
  obtain ⟨B, d, e, o⟩ := h
  injection e with e1 e2 e3; subst e1; exact o
set_option maxRecDepth 100000 in
theorem guardI : Tryd.prog.eqGuardType Tryd.prog.depth 24 = false := by kernel_rfl
set_option maxRecDepth 100000 in
theorem fieldsI : Tryd.prog.underlying 24 = some (.struct (Tryd.prog.fieldsOf 24)) := by kernel_rfl
set_option maxRecDepth 100000 in
theorem stoodI : Tryd.prog.stoodInHeld 24 = false := by kernel_rfl
set_option maxRecDepth 100000 in
theorem eqI (a b c : Int) (W : World) : (Op.equalIn 10000 24 (.agg #[.int .i64 a, .int .i64 b, .int .i64 c]) (.agg #[.int .i64 a, .int .i64 b, .int .i64 c])).run Tryd.prog W = .ok true W := by
  rw [run_equalIn_struct W 9999 24 _ _ fieldsI stoodI]
  have hf : (Tryd.prog.fieldsOf 24).toList = (match Tryd.prog.underlying 24 with | some (.struct fs) => fs | _ => #[]).toList := rfl
  rw [hf, Tryd.underlying24]
  simp [go_sem, Op.eqFields]
set_option maxRecDepth 100000 in
theorem neqI (a b c : Int) (W : World) : (binOp .neq 24 (.agg #[.int .i64 a, .int .i64 b, .int .i64 c]) (.agg #[.int .i64 a, .int .i64 b, .int .i64 c])).run Tryd.prog W = .ok (.bool false) W := by
  rw [run_neq_struct, eqI]; rfl
set_option maxRecDepth 100000 in
theorem eqlI (a b c : Int) (W : World) : (binOp .eql 24 (.agg #[.int .i64 a, .int .i64 b, .int .i64 c]) (.agg #[.int .i64 a, .int .i64 b, .int .i64 c])).run Tryd.prog W = .ok (.bool true) W := by
  rw [run_eql_struct, eqI]; rfl
set_option maxRecDepth 100000 in
theorem guardNeqI (x y : Operand) (xs ys : Array Value) (W : World) : (eqGuard .neq 24 x y (.agg xs) (.agg ys)).run Tryd.prog W = .ok () W := run_eqGuard_agg W _ _ _ _ _ _ guardI
set_option maxRecDepth 100000 in
theorem guardEqlI (x y : Operand) (xs ys : Array Value) (W : World) : (eqGuard .eql 24 x y (.agg xs) (.agg ys)).run Tryd.prog W = .ok () W := run_eqGuard_agg W _ _ _ _ _ _ guardI
theorem enc_ok {op reg arg : Int} (h : okIns op reg arg = true) : encF op reg arg = (encL op reg arg, 0) := by unfold encF; rw [h]; rfl
theorem len_ok {op reg arg : Int} (h : okIns op reg arg = true) : lenF op = (lenT op, 0) := by
  obtain ⟨h1, h2, _⟩ := okIns_iff h
  unfold lenF; rw [rngB_t ⟨h1, by omega⟩]; rfl
theorem cyc_ok {op reg arg : Int} (h : okIns op reg arg = true) : cycF op = (cycT op, 0) := by
  obtain ⟨h1, h2, _⟩ := okIns_iff h
  unfold cycF; rw [rngB_t ⟨h1, by omega⟩]; rfl
def GivesInsD (w : World) (e : Ending) (w' : World) : Prop :=
  ∃ op reg arg : Int, e = .returned (.agg #[.int .i64 op, .int .i64 reg, .int .i64 arg]) ∧ okIns op reg arg = true ∧ Below w.heap.size w w'
set_option maxRecDepth 100000 in
set_option maxHeartbeats 4000000 in
theorem instrDrawn (A : Option Addr) (n c : Nat) (zs : List Nat) (w : World) (hn : n ≤ maxLen) (hl : zs.length = n) (h : ByB w w.heap.size A zs) :
    Calls Tryd.prog 5 #[.slice A n c] w (GivesInsD w) := by
  obtain ⟨W0, hW0⟩ : ∃ W0, W0 = w.alloc (.cells #[.int .i64 0, .int .i64 0, .int .i64 0] 24) := ⟨_, rfl⟩
  have hb0 : Below w.heap.size w W0 := by rw [hW0]; exact alloc_below _ _
  have HY0 : Hid (Box W0 w.heap.size 24 #[.int .i64 0, .int .i64 0, .int .i64 0]) := Lib.hid (by rw [hW0]; exact Box.new _ _ _)
  have HC := Lib.hid (srcNew A n c zs W0 hn hl (h.step hb0))
  have HW0 := Lib.hid hW0
  clear hn hl h hW0
  go_enter Tryd.func5, Tryd.ntmps5
  go_wp2_with fail
  rw [← HW0.out]
  refine HC.out.mono ?_
  rintro e w1 ⟨rfl, S1, hb1⟩
  have HY1 := Lib.hid (HY0.out.step hb1)
  have hsz : w.heap.size + 1 ≤ W0.heap.size := HY0.out.lt
  go_wp2_with fail
  refine (instrDraw W0.heap.size A n c zs 0 w1 (by omega) S1.out).mono ?_
  rintro e w2 ⟨op, reg, arg, rfl, hok, S2, B2⟩
  have Y2 := Lib.hid (HY1.out.btw B2 (.inl (by omega)))
  have HB2 := Lib.hid ((hb0.trans (hb1.mono (by omega))).trans ((B2.below (hb1.size)).mono (by omega)))
  have g0 := Y2.out.cell 0 rfl
  have g1 := Y2.out.cell 1 rfl
  have g2 := Y2.out.cell 2 rfl
  have z0 := Y2.out.frozen 0
  have z1 := Y2.out.frozen 1
  have z2 := Y2.out.frozen 2
  have HOk := Lib.hid hok
  clear HC HY0 HY1 S1 B2 hok S2
  go_wp2
  refine bodyPost_ret (v := .agg #[.int .i64 op, .int .i64 reg, .int .i64 arg]) (by simp [results, Tryd.results5, go_sem, g0, g1, g2]) rfl ?_
  exact ⟨op, reg, arg, rfl, HOk.out, HB2.out.trans (three_set _ _ _ (Nat.le_refl _))⟩
set_option maxRecDepth 100000 in
theorem lawSameIntsD (A A' : Option Addr) (n c c' : Nat) (zs : List Int) (w : World) (hl : zs.length = n) (hn : n ≤ 1048576) (h : IntL w A zs) (h' : IntL w A' zs) :
    Calls Tryd.prog 13 #[.slice A n c, .slice A' n c'] w fun e w' => e = .returned (.bool true) ∧ Below w.heap.size w w' := by
  have HL := Lib.hid hl
  have H := Lib.hid h
  have H' := Lib.hid h'
  clear hl h h'
  have hb : ((n : Int) != (n : Int)) = false := by simp
  go_enter Tryd.func13, Tryd.ntmps13
  go_wp2
  go_loopw [5] (fun i wr => ∃ k : Nat, k ≤ n ∧ i = .int .i64 k ∧ Below w.heap.size w wr) (fun i _ => n - (intOf i).toNat)
  case atStart => exact ⟨0, Nat.zero_le _, rfl, Below.refl _ _⟩
  case round =>
    obtain ⟨k, hk, rfl, hbw⟩ := hrel
    by_cases hlt : k < n
    · obtain ⟨b, off, rfl, hc⟩ := (H.out.below hbw) k (by rw [HL.out]; exact hlt)
      obtain ⟨b', off', rfl, hc'⟩ := (H'.out.below hbw) k (by rw [HL.out]; exact hlt)
      generalize zs.getD k 0 = x at hc hc'
      have hi : (k : Int) < (n : Int) := by omega
      have hq1 : (x != x) = false := by simp
      go_wp2
      go_quiet (fail)
      go_wp2
      go_roundw
      case rel => exact ⟨k + 1, by omega, by go_num, hbw.trans ⟨rfl, rfl, rfl, Nat.le_refl _, fun _ _ => rfl⟩⟩
      case measure => simp [intOf]; omega
    · go_wp2
      go_ret
      exact ⟨rfl, hbw⟩
end Go.Proofs.YtcchhbkbnbphhaaDoor
