/- Texts of this claim, one behind the other: Wds2, Wds3, Txt, Num, Txt3, Txt4, Wds4, NumS. -/
import Derived.Test.YtcchhbkbnbphhaaDoorShelfT
import Derived.BigQuiet
import Derived.Deep.QuietTactic
import Derived.Lib.IndexLaws
import Derived.IntWalk
import Derived.Test.YtcchhbkbnbphhaaDoorLaidPow
import Derived.Lib.AppendIntMem
import Derived.Deep.RegionHeld3
import Derived.Deep.Cut
import Derived.Test.YtcchhbkbnbphhaaDoorM5
/- Cutting a text at its first space; the first words of a text, the program's. -/
namespace Go.Proofs.YtcchhbkbnbphhaaDoor
open Go.RowKit

def cutW (s : ByteArray) : ByteArray × ByteArray × Bool :=
  if Lib.indexByte s.data.toList 32 = -1 then (s, ⟨#[]⟩, false) else (s.extract 0 (Lib.indexByte s.data.toList 32).toNat, s.extract ((Lib.indexByte s.data.toList 32).toNat + 1) s.size, true)
set_option maxRecDepth 100000 in
set_option maxHeartbeats 1000000 in
theorem cutL (s : ByteArray) (w : World) (hs : s.size ≤ maxLen) : Calls Tryd.prog 69 #[.string s, .string ⟨#[32]⟩] w fun e w' => e = .returned (.tuple #[.string (cutW s).1, .string (cutW s).2.1, .bool (cutW s).2.2]) ∧ Below w.heap.size w w' := by
  unfold maxLen at hs
  have HC : Hid (cutW s = if Lib.indexByte s.data.toList 32 = -1 then (s, ⟨#[]⟩, false) else (s.extract 0 (Lib.indexByte s.data.toList 32).toNat, s.extract ((Lib.indexByte s.data.toList 32).toNat + 1) s.size, true)) := Lib.hid rfl
  generalize cutW s = r at HC ⊢
  have HI := Lib.hid (fun W => Tryd.stringslite_Index_one s 32 W)
  have hge := Lib.indexByte_ge s.data.toList 32
  have hsm : ∀ o : Nat, Lib.indexByte s.data.toList 32 = o → o < s.size := fun o ho => by
    have := (Lib.indexByte_some ho).1
    have := (List.getElem?_eq_some_iff.1 this).1
    simpa using this
  generalize Lib.indexByte s.data.toList 32 = i at HC HI hge hsm
  by_cases hi : i = -1
  · have HR : Hid (r = (s, ⟨#[]⟩, false)) := Lib.hid (by rw [HC.out, if_pos hi])
    rw [HR.out]
    subst hi
    clear HC HR hsm
    go_enter Tryd.func69, Tryd.ntmps69
    go_wp2_with (go_at_call 78; refine (HI.out _).mono ?_; rintro e w' ⟨rfl, rfl⟩)
    refine bodyPost_ret (v := .tuple #[.string s, .string ⟨#[]⟩, .bool false]) (by simp [results, Tryd.results69, go_sem]) rfl ?_
    exact ⟨rfl, Below.refl _ _⟩
  · obtain ⟨k, rfl⟩ : ∃ k : Nat, i = k := ⟨i.toNat, by omega⟩
    have hk := hsm k rfl
    have HR : Hid (r = (s.extract 0 k, s.extract (k + 1) s.size, true)) := Lib.hid (by rw [HC.out, if_neg hi, show ((k : Int)).toNat = k from by omega])
    rw [HR.out]
    clear HC HR hsm hi hge
    go_enter Tryd.func69, Tryd.ntmps69
    go_wp2_with (go_at_call 78; refine (HI.out _).mono ?_; rintro e w' ⟨rfl, rfl⟩)
    have e1 : IntKind.i64.wrap ((k : Int) + 1) = (k : Int) + 1 := IntWalk.i64_in _ (by omega)
    have e2 : ((k : Int) + 1).toNat = k + 1 := by omega
    have b0 : (0 : Int) ≤ (k : Int) := by omega
    have b1 : (k : Int) ≤ (s.size : Int) := by omega
    have b2 : (0 : Int) ≤ (k : Int) + 1 := by omega
    have b3 : (k : Int) + 1 ≤ (s.size : Int) := by omega
    have b4 : k ≤ s.size := by omega
    have b5 : k + 1 ≤ s.size := by omega
    go_quiet (fail)
    go_wp2
    refine bodyPost_ret (v := .tuple #[.string (s.extract 0 k), .string (s.extract (k + 1) s.size), .bool true]) (by simp [results, Tryd.results69, go_sem]) rfl ?_
    exact ⟨rfl, below_drewN (Below.refl _ _) _⟩
set_option maxRecDepth 100000 in
theorem cutS (s : ByteArray) (w : World) (hs : s.size ≤ maxLen) : Calls Tryd.prog 61 #[.string s, .string ⟨#[32]⟩] w fun e w' => e = .returned (.tuple #[.string (cutW s).1, .string (cutW s).2.1, .bool (cutW s).2.2]) ∧ Below w.heap.size w w' := by
  have HO := Lib.hid (fun W => cutL s W hs)
  generalize cutW s = r at HO ⊢
  obtain ⟨a, b, c⟩ := r
  go_enter Tryd.func61, Tryd.ntmps61
  go_wp2_with fail
  refine (HO.out _).mono ?_
  rintro e w1 ⟨rfl, hb⟩
  go_wp2
  refine bodyPost_ret (v := .tuple #[.string a, .string b, .bool c]) (by simp [results, Tryd.results61, go_sem]) rfl ?_
  exact ⟨rfl, hb⟩
theorem cut_words (s : ByteArray) (h0 : s.data.toList ≠ []) (h1 : ∀ c r, s.data.toList = c :: r → c ≠ 32) : wordsB s = (cutW s).1 :: wordsB (cutW s).2.1 ∧ (cutW s).2.1.size < s.size ∧ (cutW s).1.size ≤ s.size := by
  have hpos : 0 < s.size := by
    have := List.length_pos_iff.2 h0
    simpa using this
  unfold cutW
  by_cases hi : Lib.indexByte s.data.toList 32 = -1
  · rw [if_pos hi]
    have hn := Lib.indexByte_none hi
    refine ⟨?_, hpos, Nat.le_refl _⟩
    have e1 : wordsB s = [bs s.data.toList] := by
      unfold wordsB
      rw [wordsA_none _ _ hn, if_neg (by simpa using h0)]
      rfl
    rw [e1, bs_of]
    rfl
  · rw [if_neg hi]
    obtain ⟨o, ho⟩ : ∃ o : Nat, Lib.indexByte s.data.toList 32 = o := ⟨(Lib.indexByte s.data.toList 32).toNat, by have := Lib.indexByte_ge s.data.toList 32; omega⟩
    obtain ⟨ha, hb⟩ := Lib.indexByte_some ho
    rw [ho, show ((o : Int)).toNat = o from by omega]
    have hlt : o < s.size := by
      have := (List.getElem?_eq_some_iff.1 ha).1
      simpa using this
    have hne : o ≠ 0 := by
      rintro rfl
      cases hl : s.data.toList with
      | nil => exact h0 hl
      | cons c r =>
        rw [hl] at ha
        simp at ha
        exact h1 c r hl ha
    refine ⟨?_, by rw [ByteArray.size_extract]; omega, by rw [ByteArray.size_extract]; omega⟩
    have e1 : [] ++ s.data.toList.take o ≠ [] := by
      intro e
      rw [List.nil_append] at e
      rcases List.take_eq_nil_iff.1 e with h | h
      · exact hne h
      · exact h0 h
    unfold wordsB
    rw [wordsA_some _ [] o ha hb, if_neg e1, List.map_cons, ext_list]
    congr 1
    · apply ByteArray.ext
      apply Array.ext'
      rw [bs_toList, ext_list]
      simp
    · congr 2
      rw [List.take_of_length_le]
      rw [List.length_drop]
      simp
end Go.Proofs.YtcchhbkbnbphhaaDoor

/- The words of a text: the program's first four, the model's all. -/
namespace Go.Proofs.YtcchhbkbnbphhaaDoor
open Go.RowKit

def GivesW (ss : List ByteArray) (w : World) (e : Ending) (w' : World) : Prop := ∃ A n c, e = .returned (.slice A n c) ∧ ss.length = n ∧ Hid (OwnS w' w.heap.size w'.heap.size A ss) ∧ Below w.heap.size w w'
def strLen : Value → Nat
  | .string s => s.size
  | _ => 0
def trimW (s : ByteArray) : ByteArray := ⟨(Lib.trimLeftB s.data.toList 32).toArray⟩
theorem trimW_words (s : ByteArray) : wordsB (trimW s) = wordsB s := by
  unfold wordsB trimW Lib.trimLeftB
  show (wordsA [] (s.data.toList.dropWhile (· == 32))).map bs = _
  rw [wordsA_trim]
theorem trimW_size (s : ByteArray) : (trimW s).size ≤ s.size := by
  unfold trimW Lib.trimLeftB
  show ((s.data.toList.dropWhile (· == 32)).toArray).size ≤ _
  rw [List.size_toArray]
  exact Nat.le_trans (List.dropWhile_sublist _).length_le (by simp)
theorem trimW_head (s : ByteArray) : ∀ c r, (trimW s).data.toList = c :: r → c ≠ 32 := by
  intro c r h e
  unfold trimW Lib.trimLeftB at h
  have h : s.data.toList.dropWhile (· == 32) = c :: r := h
  have := List.head?_dropWhile_not (· == 32) s.data.toList
  rw [h] at this
  simp [e] at this

set_option maxRecDepth 100000 in
set_option maxHeartbeats 4000000 in
theorem firstWords (s : ByteArray) (w : World) (hs : s.size ≤ maxLen) : Calls Tryd.prog 51 #[.string s, .int .i64 4] w (GivesW ((wordsB s).take 4) w) := by
  have hs2 := hs
  unfold maxLen at hs2
  generalize hR : (wordsB s).take 4 = R
  have HR := Lib.hid hR
  clear hR
  go_enter Tryd.func51, Tryd.ntmps51
  go_wp2
  go_loopw [5, 0] (fun u v wr => ∃ (n : Nat) (A : Option Addr) (c : Nat) (t : ByteArray) (outs : List ByteArray), n ≤ 4 ∧ u = .slice A n c ∧ v = .string t ∧ t.size ≤ s.size ∧ Hid (outs.length = n) ∧ Hid (GroS wr w.heap.size (.slice A n c) outs) ∧ Hid (R = (outs ++ wordsB t).take 4) ∧ Hid (Below w.heap.size w wr)) (fun _ v _ => strLen v)
  case atStart => exact ⟨0, none, 0, s, [], by omega, rfl, rfl, Nat.le_refl _, Lib.hid rfl, Lib.hid (rowv_nil _ _ _ _), Lib.hid HR.out.symm, Lib.hid (Below.refl _ _)⟩
  case round =>
    clear HR
    obtain ⟨n, A, c, t, outs, hn, rfl, rfl, ht, HL, HG, HR, HB⟩ := hrel
    by_cases h4 : n < 4
    · have hi : (n : Int) < 4 := by omega
      have HT := Lib.hid (fun W => Tryd.strings_TrimLeft_one t 32 (by decide) W)
      have HTW := Lib.hid (trimW_words t)
      have hts := trimW_size t
      have HTH := Lib.hid (trimW_head t)
      rw [show (⟨(Lib.trimLeftB t.data.toList 32).toArray⟩ : ByteArray) = trimW t from rfl] at HT
      generalize trimW t = tr at HT HTW hts HTH
      by_cases he : tr.data.toList = []
      · have h1 : (tr.toList == []) = true := by rw [ByteArray.toList_eq, he]; rfl
        have h2 : tr.toList = [] := by rw [ByteArray.toList_eq, he]
        go_wp2_with (go_at_call 60; refine (HT.out _).mono ?_; rintro e w' ⟨rfl, rfl⟩)
        have HF : Hid (R = outs) := Lib.hid (by
          have e : wordsB tr = [] := by unfold wordsB; rw [he]; rfl
          rw [HR.out, ← HTW.out, e, List.append_nil]
          exact List.take_of_length_le (by rw [HL.out]; omega))
        go_ret
        exact ⟨A, n, c, rfl, by rw [HF.out]; exact HL.out, Lib.hid (by rw [HF.out]; exact HG.out.own (Nat.le_refl _)), HB.out⟩
      · have h1 : (tr.toList == []) = false := by rw [ByteArray.toList_eq]; simpa using he
        have h2 : ¬ tr.toList = [] := by rw [ByteArray.toList_eq]; exact he
        have h3 : tr.toList.isEmpty = false := by rw [ByteArray.toList_eq]; simpa using he
        obtain ⟨k1, k2, k3⟩ := cut_words tr he HTH.out
        have HK := Lib.hid k1
        have HC := Lib.hid (fun W => cutS tr W (Nat.le_trans hts (Nat.le_trans ht hs)))
        generalize cutW tr = cw at HK k2 k3 HC
        obtain ⟨wd, rest, fd⟩ := cw
        have HRk : Hid (wr.ownsRow w.heap.size 9 1 (.slice A n c) n (outs.map Value.string)) := Lib.hid (by have := HG.out; unfold GroS at this; rwa [HL.out] at this)
        have hsz : rest.size < tr.size := k2
        clear HTH k1 k2 k3 he HG
        go_wp2_with (first | (go_at_call 60; refine (HT.out _).mono ?_; rintro e w' ⟨rfl, rfl⟩))
        refine (HC.out _).mono ?_
        rintro e w1 ⟨rfl, hb⟩
        have HB1 := Lib.hid (bt HB.out hb)
        have HR1 := Lib.hid (rowv_below HRk.out hb)
        clear hb HB HRk h1 h2 h3
        have HBa : Hid (Below w1.heap.size w1 (w1.alloc (.cells #[.string wd] 9))) := Lib.hid (alloc_below _ _)
        have HOw := Lib.hid (rowv_below HR1.out HBa.out)
        have HNw : Hid (∀ i u, [Value.string wd][i]? = some u → (w1.alloc (.cells #[.string wd] 9)).cell? ⟨w1.heap.size, i, none⟩ = some u) := Lib.hid (fun i u hi => by
          match i, hi with
          | 0, hi => simp at hi; subst hi; exact (Box.new w1 9 #[.string wd]).cell 0 rfl)
        have hsw : w.heap.size ≤ w1.heap.size := HB1.out.size
        go_wp2_with (at_builtin; refine wpList_app_one rfl (.tmp 23) (.tmp 25) 40 9 rfl (.string ByteArray.empty) 1 16 elemStr Tryd.underlying40 w.heap.size (.slice A n c) n (outs.map Value.string) rfl ?_ w1.heap.size 1 rfl [.string wd] rfl ?_ ?_ ?_ ?_ ?_ ?_)
        any_goals first | rfl | exact HOw.out | exact HNw.out | (intro u hu; simp at hu; subst hu; rfl) | (unfold maxLen; omega) | omega | (simp; done) | (simp; omega)
        intro A2 c2 w2 hR2 hc2 hg2 hb2
        have HR2 := Lib.hid hR2
        have HB2 := Lib.hid ((bt HB1.out HBa.out).trans (hb2.mono (Nat.le_refl _)))
        clear hR2 hb2 hg2
        go_wp2
        go_roundw
        case rel =>
          refine ⟨n + 1, A2, c2, rest, outs ++ [wd], by omega, rfl, rfl, by omega, Lib.hid (by rw [List.length_append, HL.out]; rfl), Lib.hid ?_, Lib.hid (by rw [HR.out, ← HTW.out, HK.out, List.append_assoc]; rfl), HB2⟩
          unfold GroS; rw [List.length_append, HL.out, List.map_append]; exact HR2.out
        case measure => simp [strLen]; omega
    · obtain rfl : n = 4 := by omega
      have HF : Hid (R = outs) := Lib.hid (by rw [HR.out, List.take_append_of_le_length (by rw [HL.out]; omega)]; exact List.take_of_length_le (by rw [HL.out]; omega))
      go_wp2
      go_ret
      exact ⟨A, 4, c, rfl, by rw [HF.out]; exact HL.out, Lib.hid (by rw [HF.out]; exact HG.out.own (Nat.le_refl _)), HB.out⟩
end Go.Proofs.YtcchhbkbnbphhaaDoor

/- The text of an instruction: numerals by the library's Itoa, the places of its numbers. -/
namespace Go.Proofs.YtcchhbkbnbphhaaDoor
open Go.RowKit

theorem dec_digits : ∀ (f n : Nat), n < 10 ^ (f + 1) → decF (f + 1) n = Lib.decDigits n
  | f, n, h => by
    rw [decF, Lib.decDigits]
    by_cases hn : n < 10
    · rw [if_pos hn, dif_pos hn]
      unfold dg
      rw [Nat.mod_eq_of_lt hn]
    · rw [if_neg hn, dif_neg hn]
      match f, h with
      | 0, h => exact absurd h (by simp; omega)
      | f + 1, h => rw [dec_digits f (n / 10) (by rw [Nat.pow_succ] at h; omega)]; rfl
def num (n : Int) : ByteArray := bs (Lib.decDigits n.toNat)
theorem num_len (n : Int) (h : n ≤ 4095) : (num n).size ≤ 4 := by
  unfold num
  rw [← dec_digits 3 n.toNat (by omega), bs_size]
  exact decF_len 4 n.toNat
set_option maxRecDepth 100000 in
theorem itoaI (n : Int) (w : World) (h0 : 0 ≤ n) (h1 : n ≤ 4095) (hp : Pow w) : Calls Tryd.prog 50 #[.int .i64 n] w fun e w' => e = .returned (.string (num n)) ∧ Below w.heap.size w w' := by
  refine (Tryd.strconv_Itoa n (by omega) (by omega) w hp.2).mono ?_
  rintro e w' ⟨rfl, k, os, rfl⟩
  refine ⟨?_, Lib.below_grow _ _ (Nat.le_refl _) _ _⟩
  unfold num bs Lib.itoa
  rw [if_neg (by omega)]
end Go.Proofs.YtcchhbkbnbphhaaDoor

/- Natural numbers in their texts: the program's reader. -/
namespace Go.Proofs.YtcchhbkbnbphhaaDoor
open Go.RowKit

def natL (l : List UInt8) : Bool := decide (l ≠ []) && (decide (l.length ≤ 18) && (allDig l && !(decide (l.head? = some 48) && decide (1 < l.length))))
theorem natL_facts {l : List UInt8} (h : natL l = true) : l ≠ [] ∧ l.length ≤ 18 ∧ allDig l = true ∧ (l.head? = some 48 → l.length ≤ 1) := by
  unfold natL at h
  simp only [Bool.and_eq_true, decide_eq_true_eq, Bool.not_eq_true', Bool.and_eq_false_iff, decide_eq_false_iff_not] at h
  obtain ⟨h1, h2, h3, h4⟩ := h
  exact ⟨h1, h2, h3, fun e => by rcases h4 with h4 | h4; exact absurd e h4; omega⟩
theorem natL_t {l : List UInt8} (h1 : l ≠ []) (h2 : l.length ≤ 18) (h3 : allDig l = true) (h4 : l.head? ≠ some 48 ∨ l.length ≤ 1) : natL l = true := by
  unfold natL
  simp only [Bool.and_eq_true, decide_eq_true_eq, Bool.not_eq_true', Bool.and_eq_false_iff, decide_eq_false_iff_not]
  exact ⟨h1, h2, h3, by rcases h4 with h4 | h4; exact .inl h4; exact .inr (by omega)⟩
theorem natL_f {l : List UInt8} (h : ¬ (l ≠ [] ∧ l.length ≤ 18 ∧ allDig l = true ∧ (l.head? = some 48 → l.length ≤ 1))) : natL l = false := by
  cases e : natL l with
  | false => rfl
  | true => exact absurd (natL_facts e) h

set_option maxRecDepth 100000 in
set_option maxHeartbeats 1000000 in
theorem numberOf18 (s : ByteArray) (w : World) (hs : s.size ≤ 18) (hd : allDig s.data.toList = true) : Calls Tryd.prog 63 #[.string s] w fun e w' => e = .returned (.int .i64 (numOf s.data.toList : Nat)) ∧ w = w' := by
  have HD := Lib.hid hd
  clear hd
  go_enter Tryd.func63, Tryd.ntmps63
  go_wp2
  go_loop [3, 4] (fun n i => ∃ k : Nat, k ≤ s.size ∧ i = .int .i64 k ∧ n = .int .i64 (numOf (s.data.toList.take k) : Nat)) (fun _ i => s.size - (intOf i).toNat)
  case atStart => exact ⟨0, Nat.zero_le _, rfl, rfl⟩
  case round =>
    obtain ⟨k, hk, rfl, rfl⟩ := hrel
    by_cases hlt : k < s.size
    · have hb : numOf (s.data.toList.take k) < 100000000000000000 := by
        refine Nat.lt_of_lt_of_le (numOf_lt _ (allDig_take _ k HD.out)) ?_
        rw [List.length_take]
        exact Nat.le_trans (Nat.pow_le_pow_right (by omega) (show min k s.data.toList.length ≤ 17 by omega)) (by decide)
      have HS := Lib.hid (numOf_step s k hlt)
      have hc := allDig_at s k hlt HD.out
      generalize numOf (s.data.toList.take k) = m at HS hb
      obtain ⟨hc1, hc2⟩ := hc
      have hw : IntKind.u8.wrap ((s[k].toNat : Int) - 48) = (s[k].toNat : Int) - 48 := IntWalk.u8_in _ (by omega)
      go_wp2
      go_round
      case rel => exact ⟨k + 1, by omega, by go_num, by rw [HS.out]; congr 1; omega⟩
      case measure => simp [intOf]; omega
    · have HF : Hid (numOf (s.data.toList.take k) = numOf s.data.toList) := Lib.hid (by rw [List.take_of_length_le (by simpa using by omega)])
      generalize numOf (s.data.toList.take k) = m at HF
      go_wp2
      go_ret
      exact ⟨ret_int (by rw [HF.out]), rfl⟩
theorem head_at (s : ByteArray) (h : 0 < s.size) : s.data.toList.head? = some s[0] := by
  have : s.data.toList = s[0] :: s.data.toList.drop 1 := by
    have e := List.drop_eq_getElem_cons (l := s.data.toList) (i := 0) (by simpa using h)
    exact e
  rw [this]; rfl
def natV (l : List UInt8) : Int := if natL l then (numOf l : Nat) else 0

set_option maxRecDepth 100000 in
set_option maxHeartbeats 2000000 in
theorem naturalOf (s : ByteArray) (w : World) (hs : s.size ≤ maxLen) : Calls Tryd.prog 52 #[.string s] w fun e w' => e = .returned (.tuple #[.int .i64 (natV s.data.toList), .bool (natL s.data.toList)]) ∧ w = w' := by
  have hlen : s.data.toList.length = s.size := by simp
  unfold maxLen at hs
  by_cases h0 : s.data.toList = []
  · have HF := Lib.hid (natL_f (l := s.data.toList) (fun h => h.1 h0))
    have HV : Hid (natV s.data.toList = 0) := Lib.hid (by unfold natV; rw [HF.out]; rfl)
    rw [HF.out, HV.out]
    have q1 : (s.toList == []) = true := by rw [ByteArray.toList_eq, h0]; rfl
    have q2 : s.toList = [] := by rw [ByteArray.toList_eq, h0]
    clear h0 hlen HF HV
    go_enter Tryd.func52, Tryd.ntmps52
    go_wp2
    go_ret2
    exact ⟨rfl, rfl⟩
  · have q1 : (s.toList == []) = false := by rw [ByteArray.toList_eq]; simpa using h0
    have q2 : ¬ s.toList = [] := by rw [ByteArray.toList_eq]; exact h0
    have q3 : s.toList.isEmpty = false := by rw [ByteArray.toList_eq]; simpa using h0
    have hpos : 0 < s.size := by rw [← hlen]; exact List.length_pos_iff.2 h0
    by_cases h18 : s.size ≤ 18
    · have i18 : ¬ (18 : Int) < (s.size : Int) := by omega
      have HA := Lib.hid (fun W => allDigits s W (by unfold maxLen; omega))
      cases hd : allDig s.data.toList with
      | false =>
        have HF := Lib.hid (natL_f (l := s.data.toList) (fun h => by rw [hd] at h; exact absurd h.2.2.1 (by decide)))
        have HV : Hid (natV s.data.toList = 0) := Lib.hid (by unfold natV; rw [HF.out]; rfl)
        rw [hd] at HA
        rw [HF.out, HV.out]
        clear h0 hlen HF HV hd
        go_enter Tryd.func52, Tryd.ntmps52
        go_wp2_with (first | (go_at_call 62; refine (HA.out _).mono ?_; rintro e w' ⟨rfl, rfl⟩))
        go_ret2
        exact ⟨rfl, rfl⟩
      | true =>
        have HH := Lib.hid (head_at s hpos)
        have HO := Lib.hid (fun W => numberOf18 s W h18 hd)
        rw [hd] at HA
        by_cases hz : s[0] = 48
        · have z1 : ((s[0].toNat : Int) == 48) = true := by rw [hz]; rfl
          by_cases h1 : 1 < s.size
          · have i1 : (1 : Int) < (s.size : Int) := by omega
            have HF := Lib.hid (natL_f (l := s.data.toList) (fun h => by have := h.2.2.2 (by rw [HH.out, hz]); omega))
            have HV : Hid (natV s.data.toList = 0) := Lib.hid (by unfold natV; rw [HF.out]; rfl)
            rw [HF.out, HV.out]
            clear h0 hlen HF HV hd hz
            go_enter Tryd.func52, Tryd.ntmps52
            go_wp2_with (first | (go_at_call 62; refine (HA.out _).mono ?_; rintro e w' ⟨rfl, rfl⟩))
            go_ret2
            exact ⟨rfl, rfl⟩
          · have i1 : ¬ (1 : Int) < (s.size : Int) := by omega
            have HF := Lib.hid (natL_t (l := s.data.toList) h0 (by omega) hd (.inr (by omega)))
            have HV : Hid (natV s.data.toList = (numOf s.data.toList : Nat)) := Lib.hid (by unfold natV; rw [HF.out]; rfl)
            rw [HF.out, HV.out]
            clear h0 hlen HF HV hd hz
            generalize ((numOf s.data.toList : Nat) : Int) = v at HO ⊢
            go_enter Tryd.func52, Tryd.ntmps52
            go_wp2_with (first | (go_at_call 62; refine (HA.out _).mono ?_; rintro e w' ⟨rfl, rfl⟩) | (go_at_call 63; refine (HO.out _).mono ?_; rintro e w' ⟨rfl, rfl⟩))
            go_ret2
            exact ⟨rfl, rfl⟩
        · have z1 : ((s[0].toNat : Int) == 48) = false := by
            have : s[0].toNat ≠ 48 := fun e => hz (UInt8.toNat_inj.1 e)
            simp; omega
          have HF := Lib.hid (natL_t (l := s.data.toList) h0 (by omega) hd (.inl (by rw [HH.out]; simpa using hz)))
          have HV : Hid (natV s.data.toList = (numOf s.data.toList : Nat)) := Lib.hid (by unfold natV; rw [HF.out]; rfl)
          rw [HF.out, HV.out]
          clear h0 hlen HF HV hd hz
          generalize ((numOf s.data.toList : Nat) : Int) = v at HO ⊢
          go_enter Tryd.func52, Tryd.ntmps52
          go_wp2_with (first | (go_at_call 62; refine (HA.out _).mono ?_; rintro e w' ⟨rfl, rfl⟩) | (go_at_call 63; refine (HO.out _).mono ?_; rintro e w' ⟨rfl, rfl⟩))
          go_ret2
          exact ⟨rfl, rfl⟩
    · have i18 : (18 : Int) < (s.size : Int) := by omega
      have HF := Lib.hid (natL_f (l := s.data.toList) (fun h => by have := h.2.1; omega))
      have HV : Hid (natV s.data.toList = 0) := Lib.hid (by unfold natV; rw [HF.out]; rfl)
      rw [HF.out, HV.out]
      clear h0 hlen HF HV
      go_enter Tryd.func52, Tryd.ntmps52
      go_wp2
      go_ret2
      exact ⟨rfl, rfl⟩
end Go.Proofs.YtcchhbkbnbphhaaDoor

/- The text of an instruction, the program's. -/
namespace Go.Proofs.YtcchhbkbnbphhaaDoor
open Go.RowKit

def valsL (r a reg arg : Int) : List Int := (if 0 < r then [reg] else []) ++ (if 0 < a then [arg] else [])
def joinT (s : ByteArray) : List Int → ByteArray
  | [] => s
  | v :: vs => joinT (s ++ (⟨#[32]⟩ ++ num v)) vs
def txtB (op reg arg : Int) : ByteArray := joinT (opWord op.toNat) (valsL (regT op) (argT op) reg arg)
theorem opWord_len (k : Nat) : (opWord k).size ≤ 4 := by
  by_cases h : k < 23
  · have : k = 0 ∨ k = 1 ∨ k = 2 ∨ k = 3 ∨ k = 4 ∨ k = 5 ∨ k = 6 ∨ k = 7 ∨ k = 8 ∨ k = 9 ∨ k = 10 ∨ k = 11 ∨ k = 12 ∨ k = 13 ∨ k = 14 ∨ k = 15 ∨ k = 16 ∨ k = 17 ∨ k = 18 ∨ k = 19 ∨ k = 20 ∨ k = 21 ∨ k = 22 := by omega
    rcases this with rfl | rfl | rfl | rfl | rfl | rfl | rfl | rfl | rfl | rfl | rfl | rfl | rfl | rfl | rfl | rfl | rfl | rfl | rfl | rfl | rfl | rfl | rfl <;> decide
  · unfold opWord
    rw [List.getD_eq_getElem?_getD, List.getElem?_eq_none (by show 23 ≤ k; omega)]
    decide
theorem places_vals (r a reg arg : Int) (b : Nat) (T : TypeId) (op : Int) (h1 : 0 ≤ reg ∧ reg ≤ 4095) (h2 : 0 ≤ arg ∧ arg ≤ 4095) : ∀ k, k < (placesL r a b).length → ∃ j, (placesL r a b).getD k ⟨0, 0, none⟩ = ⟨b, j, none⟩ ∧ (∀ W, Box W b T #[.int .i64 op, .int .i64 reg, .int .i64 arg] → W.cell? ⟨b, j, none⟩ = some (.int .i64 ((valsL r a reg arg).getD k 0))) ∧ (0 ≤ (valsL r a reg arg).getD k 0 ∧ (valsL r a reg arg).getD k 0 ≤ 4095) ∧ (valsL r a reg arg).drop k = (valsL r a reg arg).getD k 0 :: (valsL r a reg arg).drop (k + 1) := by
  unfold placesL valsL
  by_cases h3 : 0 < r <;> by_cases h4 : 0 < a <;> simp only [h3, h4, if_true, if_false, List.append_nil, List.nil_append, List.cons_append]
  · intro k hk
    match k, hk with
    | 0, _ => exact ⟨1, rfl, fun W h => h.cell 1 rfl, h1, rfl⟩
    | 1, _ => exact ⟨2, rfl, fun W h => h.cell 2 rfl, h2, rfl⟩
  · intro k hk
    match k, hk with
    | 0, _ => exact ⟨1, rfl, fun W h => h.cell 1 rfl, h1, rfl⟩
  · intro k hk
    match k, hk with
    | 0, _ => exact ⟨2, rfl, fun W h => h.cell 2 rfl, h2, rfl⟩
  · intro k hk
    simp at hk
theorem places_len (r a reg arg : Int) (b : Nat) : (placesL r a b).length ≤ 2 ∧ (valsL r a reg arg).length = (placesL r a b).length := by
  unfold placesL valsL
  by_cases h3 : 0 < r <;> by_cases h4 : 0 < a <;> simp [h3, h4]

set_option maxRecDepth 100000 in
set_option maxHeartbeats 4000000 in
theorem insText (op : Nat) (reg arg : Int) (w : World) (ht : OpsT w) (hp : Pow w) (h0 : op ≤ 21) (hr0 : 0 ≤ reg) (hr1 : reg ≤ 3) (ha0 : 0 ≤ arg) (ha1 : arg ≤ 4095) :
    Calls Tryd.prog 29 #[.agg #[.int .i64 op, .int .i64 reg, .int .i64 arg]] w fun e w' => e = .returned (.string (txtB op reg arg)) ∧ Below w.heap.size w w' := by
  have hlt := ht.lt
  obtain ⟨c1, c2, c3, c4⟩ := ht op (by omega)
  have HE : Hid (txtB op reg arg = joinT (opWord op) (valsL (regT op) (argT op) reg arg)) := Lib.hid (by unfold txtB; rw [show ((op : Nat) : Int).toNat = op from by omega])
  have hsw := opWord_len op
  generalize txtB op reg arg = R at HE ⊢
  generalize opWord op = s at c1 HE hsw
  generalize regT op = r at c2 HE
  generalize argT op = a at c3 HE
  generalize fixT op = c at c4
  have HPV := Lib.hid (places_vals r a reg arg w.heap.size 24 op ⟨hr0, by omega⟩ ⟨ha0, ha1⟩)
  obtain ⟨hpl, hpl2⟩ := places_len r a reg arg w.heap.size
  have HPL := Lib.hid hpl2
  have HN := Lib.hid (fun W => numbersI s r a c w.heap.size W)
  generalize placesL r a w.heap.size = ps at HPV hpl HPL HN
  generalize valsL r a reg arg = vs at HPV HPL HE
  have HP := Lib.hid hp
  clear ht hp hpl2
  obtain ⟨W0, hW0⟩ : ∃ W0, W0 = (w.alloc (.cells #[.int .i64 op, .int .i64 reg, .int .i64 arg] 24)).alloc (.cells #[.string s, .int .i64 r, .int .i64 a, .int .i64 c] 57) := ⟨_, rfl⟩
  have hb0 : Below w.heap.size w W0 := by rw [hW0]; exact bt (alloc_below _ _) (alloc_below _ _)
  have X0 : Hid (Box W0 w.heap.size 24 #[.int .i64 op, .int .i64 reg, .int .i64 arg]) := Lib.hid (by rw [hW0]; exact (Box.new _ _ _).alloc _)
  have HW0 := Lib.hid hW0
  have HB0 := Lib.hid hb0
  clear hW0 hb0
  go_enter Tryd.func29, Tryd.ntmps29
  go_wp2_with fail
  rw [← HW0.out]
  refine (HN.out W0).mono ?_
  rintro e w1 ⟨A, n, cc, rfl, hl, HA, hb⟩
  have HL := Lib.hid hl
  have hn2 : n ≤ 2 := by omega
  have HB1 := Lib.hid (bt HB0.out hb)
  have X1 := Lib.hid (X0.out.step hb)
  clear hl hb HB0 X0 HN HW0 c1 c2 c3 c4 hpl
  go_wp2
  go_loopw [16, 4] (fun i t wr => ∃ (k : Nat) (cur : ByteArray), k ≤ n ∧ i = .int .i64 k ∧ t = .string cur ∧ Hid (R = joinT cur (vs.drop k)) ∧ cur.size ≤ 4 + 5 * k ∧ Hid (Below w1.heap.size w1 wr)) (fun i _ _ => n - (intOf i).toNat)
  case atStart => exact ⟨0, s, Nat.zero_le _, rfl, rfl, Lib.hid HE.out, by omega, Lib.hid (Below.refl _ _)⟩
  case round =>
    obtain ⟨k, cur, hk, rfl, rfl, HR, hcs, HB⟩ := hrel
    by_cases hlt2 : k < n
    · have hi : (k : Int) < (n : Int) := by omega
      obtain ⟨g, _, hA, hc⟩ := HA.out.below HB.out k (by rw [HL.out]; exact hlt2)
      obtain ⟨j, e1, e2, ⟨e3, e4⟩, e5⟩ := HPV.out k (by rw [HL.out]; exact hlt2)
      subst hA
      rw [e1] at hc
      have hv := e2 _ (X1.out.step HB.out)
      have HD := Lib.hid e5
      generalize vs.getD k 0 = v at hv e3 e4 HD
      have hns := num_len v e4
      clear e1 e2 e5
      go_wp2_with fail
      refine (itoaI v _ e3 e4 (HP.out.below (bt HB1.out HB.out))).mono ?_
      rintro e w2 ⟨rfl, hb⟩
      have HB2 := Lib.hid (bt HB.out hb)
      have HR2 : Hid (R = joinT (cur ++ (⟨#[32]⟩ ++ num v)) (vs.drop (k + 1))) := Lib.hid (by rw [HR.out, HD.out]; rfl)
      generalize num v = nv at hns HR2 ⊢
      clear hb hc hv
      have h1 : ¬ 9223372036854775807 < (⟨#[32]⟩ : ByteArray).size + nv.size := by show ¬ _ < 1 + nv.size; omega
      have h2 : ¬ 9223372036854775807 < cur.size + ((⟨#[32]⟩ : ByteArray) ++ nv).size := by rw [ByteArray.size_append]; show ¬ _ < cur.size + (1 + nv.size); omega
      go_wp2
      go_roundw
      case rel => exact ⟨k + 1, _, by omega, by go_num, rfl, HR2, by rw [ByteArray.size_append, ByteArray.size_append]; show cur.size + (1 + nv.size) ≤ _; omega, HB2⟩
      case measure => simp [intOf]; omega
    · obtain rfl : k = n := by omega
      have hi : ¬ (k : Int) < (k : Int) := by omega
      have HF : Hid (R = cur) := Lib.hid (by rw [HR.out, List.drop_of_length_le (by rw [HPL.out, HL.out]; exact Nat.le_refl _)]; rfl)
      go_wp2
      go_ret
      exact ⟨by rw [HF.out]; rfl, bt HB1.out HB.out⟩
end Go.Proofs.YtcchhbkbnbphhaaDoor

/- The text of an instruction, the model's; InstrText on both sides. Written by gen_txt4.py. -/
namespace Go.Proofs.YtcchhbkbnbphhaaDoor
open Go.RowKit

section
variable (op : Nat) (reg arg : Int) (w : World)
end
def txtF (op reg arg : Int) : ByteArray × Int := if okIns op reg arg then (txtB op reg arg, 0) else (⟨#[]⟩, 1)
theorem txtF_t {op reg arg : Int} (h : okIns op reg arg = true) : txtF op reg arg = (txtB op reg arg, 0) := by unfold txtF; rw [h]; rfl
theorem txtF_f {op reg arg : Int} (h : okIns op reg arg = false) : txtF op reg arg = (⟨#[]⟩, 1) := by unfold txtF; rw [h]; rfl
set_option maxRecDepth 100000 in
set_option maxHeartbeats 2000000 in
theorem implInstrText (op reg arg : Int) (w : World) (ht : OpsT w) (hp : Pow w) : Calls Tryd.prog 9 #[.agg #[.int .i64 op, .int .i64 reg, .int .i64 arg]] w fun e w' => e = .returned (.tuple #[.string (txtF op reg arg).1, .int .i64 (txtF op reg arg).2]) ∧ Below w.heap.size w w' := by
  have hb0 := alloc_below w (.cells #[.int .i64 op, .int .i64 reg, .int .i64 arg] 24)
  have X0 := Lib.hid (Box.new w 24 #[.int .i64 op, .int .i64 reg, .int .i64 arg])
  have HV := Lib.hid (valid op reg arg _ (ht.below hb0))
  have HT := Lib.hid ht
  have HP := Lib.hid hp
  clear ht hp
  have HB0 := Lib.hid hb0
  cases hok : okIns op reg arg with
  | true =>
    rw [txtF_t hok]
    rw [hok] at HV
    obtain ⟨h1, h2, h3, h4, h5, h6⟩ := okIns_iff hok
    have hr := regT_range op
    have ha := argT_range op
    have HO := Lib.hid (fun W (h : OpsT W) (p : Pow W) => insText op.toNat reg arg W h p (by omega) h3 (by omega) h5 (by omega))
    rw [show ((op.toNat : Nat) : Int) = op from by omega] at HO
    clear hok h1 h2 h3 h4 h5 h6 hr ha hb0
    generalize txtB op reg arg = zs at HO ⊢
    go_enter Tryd.func9, Tryd.ntmps9
    go_wp2_with fail
    refine HV.out.mono ?_
    rintro e w1 ⟨rfl, hb⟩
    have HB1 := Lib.hid (bt HB0.out hb)
    have X1 := Lib.hid (X0.out.step hb)
    clear hb X0 HB0 HV
    have x0 := X1.out.cell 0 rfl
    have x1 := X1.out.cell 1 rfl
    have x2 := X1.out.cell 2 rfl
    go_wp2_with fail
    refine (HO.out w1 (HT.out.below HB1.out) (HP.out.below HB1.out)).mono ?_
    rintro e w2 ⟨rfl, hb⟩
    have HB2 := Lib.hid (bt HB1.out hb)
    clear hb x0 x1 x2
    go_wp2
    go_ret2
    exact ⟨rfl, HB2.out⟩
  | false =>
    rw [txtF_f hok]
    rw [hok] at HV
    clear hok hb0
    go_enter Tryd.func9, Tryd.ntmps9
    go_wp2_with fail
    refine HV.out.mono ?_
    rintro e w1 ⟨rfl, hb⟩
    have HB1 := Lib.hid (bt HB0.out hb)
    clear hb X0 HB0 HV
    go_wp2
    go_ret2
    exact ⟨rfl, HB1.out⟩
set_option maxRecDepth 100000 in
theorem implInstrTextA (d0 d1 d2 : Int) (w : World) (t : OpsT w) (pw : Pow w) : Calls Tryd.prog 9 #[.agg #[.int .i64 d0, .int .i64 d1, .int .i64 d2]] w fun e w' => e = .returned (.tuple #[.string (txtF d0 d1 d2).1, .int .i64 (txtF d0 d1 d2).2]) ∧ Below w.heap.size w w' := implInstrText d0 d1 d2 w t pw
end Go.Proofs.YtcchhbkbnbphhaaDoor

/- The words of a text, the model's. Written by gen_wds4.py. -/
namespace Go.Proofs.YtcchhbkbnbphhaaDoor
open Go.RowKit

end Go.Proofs.YtcchhbkbnbphhaaDoor

/- Numbers in their texts, the model's reader. Written by gen_nums.py. -/
namespace Go.Proofs.YtcchhbkbnbphhaaDoor
open Go.RowKit
end Go.Proofs.YtcchhbkbnbphhaaDoor
