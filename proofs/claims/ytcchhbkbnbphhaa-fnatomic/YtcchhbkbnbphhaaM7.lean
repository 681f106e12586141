/- Texts of this claim, one behind the other: DigWalk, RootTextSpec, TornAsk, WriteSpec, SrcDisk, Lay, Split, Drawn, At, OpenBytes. -/
import Derived.Test.YtcchhbkbnbphhaaRootOk
import Derived.Deep.RegionHeld3
import Derived.Laws.IdiomStrings
import Derived.Deep.DrawnRows
import Derived.IntWalk
import Derived.Deep.RegionWith
import Derived.BigQuiet
import Derived.Test.YtcchhbkbnbphhaaM6
/- Contracts of the digits' functions: l00Digits, l02Digits, digitsOf. -/
namespace Go.Proofs.Ytcchhbkbnbphhaa
open Go.RowKit

set_option maxRecDepth 100000 in
theorem conv_dig (W : World) (b j : Nat) (h : W.cell? ⟨b, 0, none⟩ = some (.int .u8 (48 + (j : Int) % 10))) :
    (convert 22 9 (.slice (some ⟨b, 0, none⟩) 1 1)).run Try.prog W = .ok (.string (bs [dg j])) W :=
  run_convert_bytes_back (P := Try.prog) W 22 9 5 ⟨b, 0, none⟩ 1 [dg j] Try.underlying22 Try.underlying5 Try.underlying9 (fun i hi => by
    have hi' : i = 0 := by simpa using hi
    subst hi'
    simp only [List.getElem_cons_zero]
    rw [dg_nat]
    simpa [Addr.add] using h)
set_option maxRecDepth 100000 in
theorem conv_new (V : World) (j : Nat) : (convert 22 9 (.slice (some ⟨V.heap.size, 0, none⟩) 1 1)).run Try.prog (V.alloc (.cells #[.int .u8 (48 + (j : Int) % 10)] 5)) = .ok (.string (bs [dg j])) (V.alloc (.cells #[.int .u8 (48 + (j : Int) % 10)] 5)) :=
  conv_dig _ _ j ((Box.new V 5 #[.int .u8 (48 + (j : Int) % 10)]).cell 0 rfl)

set_option maxRecDepth 100000 in
set_option maxHeartbeats 1000000 in
theorem l00Digits : ∀ (f n : Nat) (w : World), n < 10 ^ (f + 1) → f ≤ 17 → Calls Try.prog 95 #[.int .i64 n] w fun e w' => e = .returned (.string (bs (decF (f + 1) n))) ∧ Below w.heap.size w w'
  | f, n, w, h, hf => by
    have hbig : n < 1000000000000000000 := Nat.lt_of_lt_of_le h (Nat.le_trans (Nat.pow_le_pow_right (by omega) (show f + 1 ≤ 18 by omega)) (by decide))
    have q0 : ((n : Int) == -9223372036854775808) = false := by simp
    have q1 : ¬ (n : Int) < 0 := by omega
    by_cases hn : n < 10
    · have q2 : (n : Int) < 10 := by omega
      have hm : (n : Int) % 10 = (n : Int) := by omega
      have HD : Hid (decF (f + 1) n = [dg n]) := Lib.hid (by rw [decF, if_pos hn])
      have hcv := fun V => conv_new V n
      rw [hm] at hcv
      clear hm h
      go_enter Try.func95, Try.ntmps95
      go_wp2
      go_ret
      exact ⟨ret_str (by rw [HD.out]), alloc_below _ _⟩
    · have q2 : ¬ (n : Int) < 10 := by omega
      match f, h, hf with
      | 0, h, hf => exact absurd h (by simp; omega)
      | f + 1, h, hf =>
        have IH := Lib.hid (fun W => l00Digits f (n / 10) W (by rw [Nat.pow_succ] at h; omega) (by omega))
        have HD : Hid (decF (f + 1 + 1) n = decF (f + 1) (n / 10) ++ [dg n]) := Lib.hid (by rw [decF, if_neg hn])
        have HLn := Lib.hid (decF_len (f + 1) (n / 10))
        have hcv := fun V => conv_new V n
        have HC := Lib.hid (fun W b => conv_dig W b n)
        rw [show ((n / 10 : Nat) : Int) = (n : Int) / 10 by omega] at IH
        generalize decF (f + 1) (n / 10) = l at IH HD HLn
        clear h hn
        go_enter Try.func95, Try.ntmps95
        go_wp2
        have h6 : Below w.heap.size w w.drew := (Below.refl _ _).drew
        have e1 : IntKind.i64.wrap ((n : Int) / 10) = (n : Int) / 10 := IntWalk.i64_in _ (by omega)
        have e3 : IntKind.i64.wrap (48 + (n : Int) % 10) = 48 + (n : Int) % 10 := IntWalk.i64_in _ (by omega)
        have e4 : IntKind.u8.wrap (48 + (n : Int) % 10) = 48 + (n : Int) % 10 := IntWalk.u8_in _ (by omega)
        have e2 : (n : Int).tmod 10 = (n : Int) % 10 := Int.tmod_eq_emod_of_nonneg (by omega)
        have hnl : ¬ 9223372036854775807 < (bs l).size + (bs [dg n]).size := by have := HLn.out; rw [bs_size, bs_size]; simp; omega
        have hcv2 := conv_dig (w.alloc (.cells #[.int .u8 (48 + (n : Int) % 10)] 5)).drew w.heap.size n ((Box.new w 5 #[.int .u8 (48 + (n : Int) % 10)]).cell 0 rfl)
        go_region_with (first
          | (go_at_call 95; refine (IH.out (w.alloc (.cells #[.int .u8 (48 + (n : Int) % 10)] 5)).drew).mono ?_; rintro e w1 ⟨rfl, hb1⟩; have kb := bt ((alloc_below w _).drew) hb1; have kc := HC.out w1 w.heap.size ((hb1.cell (p := ⟨w.heap.size, 0, none⟩) (by simp)).trans ((Box.new w 5 #[.int .u8 (48 + (n : Int) % 10)]).cell 0 rfl)))
          | (go_at_call 95; refine (IH.out w.drew).mono ?_; rintro e w1 ⟨rfl, hb1⟩; have kb := bt h6 hb1))
        all_goals clear hcv hcv2
        all_goals go_wp2
        all_goals go_ret
        all_goals (refine ⟨ret_str (by rw [HD.out, ← bs_app]), ?_⟩)
        all_goals (first | exact kb | exact bt kb (alloc_below _ _))

set_option maxRecDepth 100000 in
set_option maxHeartbeats 1000000 in
theorem l02Digits (W n : Nat) (w : World) (h : n < 10 ^ (W + 1)) (hW : W ≤ 17) :
    Calls Try.prog 87 #[.int .i64 n, .int .i64 ((W + 1 : Nat) : Int)] w fun e w' => e = .returned (.string (bs (digs (W + 1) n))) ∧ Below w.heap.size w w' := by
  have HD := Lib.hid (l00Digits W n w h hW)
  have HP := Lib.hid (pad_dec W n h)
  have HLn := Lib.hid (decF_len (W + 1) n)
  generalize decF (W + 1) n = l at HD HP HLn
  generalize digs (W + 1) n = r at HP
  clear h
  go_enter Try.func87, Try.ntmps87
  go_wp2_with fail
  refine HD.out.mono ?_
  rintro e w1 ⟨rfl, hb1⟩
  go_wp2
  go_loop [5] (fun t => ∃ j : Nat, t = .string (bs (List.replicate j 48 ++ l)) ∧ j + l.length ≤ W + 1) (fun t => W + 1 - (match t with | .string s => s.size | _ => 0))
  case atStart => exact ⟨0, by simp, by have := HLn.out; omega⟩
  case round =>
    obtain ⟨j, rfl, hj⟩ := hrel
    have hsz : (bs (List.replicate j 48 ++ l)).size = j + l.length := by rw [bs_size]; simp
    by_cases hlt : j + l.length < W + 1
    · have hc : (((bs (List.replicate j 48 ++ l)).size : Nat) : Int) < ((W + 1 : Nat) : Int) := by rw [hsz]; omega
      have hnl : ¬ 9223372036854775807 < (⟨#[48]⟩ : ByteArray).size + (bs (List.replicate j 48 ++ l)).size := by rw [hsz]; show ¬ 9223372036854775807 < 1 + _; omega
      have HN : Hid ((⟨#[48]⟩ : ByteArray) ++ bs (List.replicate j 48 ++ l) = bs (List.replicate (j + 1) 48 ++ l)) := Lib.hid (by rw [List.replicate_succ]; exact bs_app [48] _)
      have HZ := Lib.hid hsz
      clear hsz
      generalize bs (List.replicate j 48 ++ l) = t at hc hnl HN HZ
      go_wp2
      refine ⟨⟨j + 1, by rw [HN.out], by omega⟩, ?_⟩
      show W + 1 - ((⟨#[48]⟩ : ByteArray) ++ t).size < W + 1 - t.size
      rw [ByteArray.size_append, HZ.out]
      show W + 1 - (1 + (j + l.length)) < _
      omega
    · have hc : ¬ (((bs (List.replicate j 48 ++ l)).size : Nat) : Int) < ((W + 1 : Nat) : Int) := by rw [hsz]; omega
      have HF : Hid (bs (List.replicate j 48 ++ l) = bs r) := Lib.hid (by rw [← HP.out, show W + 1 - l.length = j by omega])
      clear hsz
      generalize bs (List.replicate j 48 ++ l) = t at hc HF
      go_wp2
      go_ret
      exact ⟨ret_str HF.out, hb1⟩

theorem digs_split (W j n : Nat) (x : Nat) (hj : j < W) (_hx : x < W) :
    (if x = W - (j + 1) then Value.int .u8 (48 + ((n / 10 ^ j : Nat) : Int) % 10) else if W - j ≤ x then Value.int .u8 ((digs j n).getD (x - (W - j)) 0).toNat else .int .u8 0) =
    (if W - (j + 1) ≤ x then Value.int .u8 ((digs (j + 1) n).getD (x - (W - (j + 1))) 0).toNat else .int .u8 0) := by
  rw [digs_front]
  by_cases h1 : x = W - (j + 1)
  · rw [if_pos h1, if_pos (by omega), show x - (W - (j + 1)) = 0 by omega]
    simp only [List.getD_cons_zero]
    rw [dg_nat]
    rfl
  · rw [if_neg h1]
    by_cases h2 : W - j ≤ x
    · rw [if_pos h2, if_pos (by omega), show x - (W - (j + 1)) = (x - (W - j)) + 1 by omega]
      simp only [List.getD_cons_succ]
    · rw [if_neg h2, if_neg (by omega)]

set_option maxRecDepth 100000 in
theorem infoU8 : (Try.prog.info? 5).map (fun i => (i.zero, i.size, i.bytes)) = some (some (.int .u8 0), 1, 1) := by kernel_rfl

set_option maxRecDepth 100000 in
set_option maxHeartbeats 1000000 in
theorem digitsOf (W n : Nat) (w : World) (hn : n ≤ 1000000000000) (hW : W ≤ 17) :
    Calls Try.prog 80 #[.int .i64 n, .int .i64 (W : Int)] w fun e w' => e = .returned (.string (bs (digs W n))) ∧ Below w.heap.size w w' := by
  have hmk := fun V => run_make_row' (P := Try.prog) 22 5 (.int .u8 0) 1 Try.underlying22 infoU8 rfl .i64 .i64 W (by omega) (by omega) V
  go_enter Try.func80, Try.ntmps80
  go_wp2
  clear hmk
  have HR := Lib.hid (World.rowIs_made w (.int .u8 0) W 5)
  have hbel := alloc_below w (.cells (madeCells #[.int .u8 0] W) 5)
  generalize w.alloc (.cells (madeCells #[.int .u8 0] W) 5) = wa at hbel HR ⊢
  go_loopw [0, 6] (fun a i wr => ∃ j : Nat, j ≤ W ∧ i = .int .i64 ((W : Int) - 1 - (j : Int)) ∧ a = .int .i64 ((n / 10 ^ j : Nat) : Int) ∧ Below w.heap.size w wr ∧ Hid (wr.rowIs w.heap.size 5 W (fun x => if W - j ≤ x then .int .u8 ((digs j n).getD (x - (W - j)) 0).toNat else .int .u8 0))) (fun _ i _ => (intOf i + 1).toNat)
  case atStart => exact ⟨0, Nat.zero_le _, by simp, by simp, hbel, Lib.hid (HR.out.congr (fun x hx => by rw [if_neg (by omega)]))⟩
  case round =>
    obtain ⟨j, hj, rfl, rfl, hbw, HW⟩ := hrel
    have hq : n / 10 ^ j ≤ n := Nat.div_le_self _ _
    by_cases hlt : j < W
    · have hc := HW.out.cell (i := W - (j + 1)) (by omega)
      have hfz := HW.out.frozen (W - (j + 1))
      rw [if_neg (by omega)] at hc
      have HS := Lib.hid (HW.out.set (W - (j + 1)) (.int .u8 (48 + ((n / 10 ^ j : Nat) : Int) % 10)))
      have HX := Lib.hid (fun x hx => digs_split W j n x hlt hx)
      have HNx : Hid (n / 10 ^ (j + 1) = n / 10 ^ j / 10) := Lib.hid (by rw [Nat.pow_succ, Nat.div_div_eq_div_mul])
      generalize n / 10 ^ j = m at hq HS HX HNx
      obtain ⟨i, hi⟩ : ∃ i : Nat, i = W - (j + 1) := ⟨_, rfl⟩
      rw [← hi] at hc hfz HS
      have HI := Lib.hid hi
      have e1 : (W : Int) - 1 - (j : Int) = (i : Int) := by omega
      rw [e1]
      have hi1 : (i : Int) < (W : Int) := by omega
      clear hi e1 HW
      go_wp2
      refine ⟨⟨j + 1, by omega, ?_, ?_, hbw.setCell (Nat.le_refl _) _, Lib.hid (HS.out.congr (fun x hx => ?_))⟩, ?_⟩
      · have := HI.out; congr 1; omega
      · rw [HNx.out]; congr 1
      · rw [HI.out]; exact HX.out x hx
      · simp [intOf]
    · obtain rfl : j = W := by omega
      have hz : ¬ (0 : Int) ≤ (j : Int) - 1 - (j : Int) := by omega
      have hcv := run_convert_bytes_back (P := Try.prog) wr 22 9 5 ⟨w.heap.size, 0, none⟩ j (digs j n) Try.underlying22 Try.underlying5 Try.underlying9 (fun i hi => by
        have hi' : i < j := by rwa [digs_len] at hi
        have := HW.out.cell (i := i) hi'
        rw [if_pos (by omega), show i - (j - j) = i by omega, List.getD_eq_getElem?_getD, List.getElem?_eq_getElem hi, Option.getD_some] at this
        unfold Addr.add
        by_cases h0 : i = 0
        · subst h0; simpa using this
        · rw [if_neg h0]; simpa using this)
      rw [digs_len] at hcv
      have HF : Hid ((⟨(digs j n).toArray⟩ : ByteArray) = bs (digs j n)) := Lib.hid rfl
      generalize (⟨(digs j n).toArray⟩ : ByteArray) = t at hcv HF
      clear HW hq
      generalize n / 10 ^ j = m
      go_wp2
      go_ret
      exact ⟨ret_str HF.out, hbw⟩
end Go.Proofs.Ytcchhbkbnbphhaa

/- Contracts of the roots' texts: Root.text, l02Text, both RootText. -/
namespace Go.Proofs.Ytcchhbkbnbphhaa
open Go.RowKit

def tabTx (zs : List Int) : List UInt8 := zs.flatMap fun z => digs 2 z.toNat
def rootTx (g : Int) (zs : List Int) : ByteArray := bs (digs 6 g.toNat ++ tabTx zs ++ digs 6 g.toNat)
theorem tabTx_step (zs : List Int) (k : Nat) (h : k < zs.length) : tabTx (zs.take (k + 1)) = tabTx (zs.take k) ++ digs 2 (zs.getD k 0).toNat := by
  unfold tabTx
  rw [List.take_succ_eq_append_getElem h, List.flatMap_append, List.getD_eq_getElem?_getD, List.getElem?_eq_getElem h]
  simp
theorem tabTx_len (zs : List Int) : (tabTx zs).length = 2 * zs.length := by
  induction zs with
  | nil => rfl
  | cons a r ih => unfold tabTx at ih ⊢; rw [List.flatMap_cons, List.length_append, ih, digs_len]; simp; omega

set_option maxRecDepth 100000 in
set_option maxHeartbeats 1000000 in
theorem rootText (g : Int) (A : Option Addr) (n c : Nat) (zs : List Int) (w : World) (hl : zs.length = n) (hn : n ≤ 17) (hg : 0 ≤ g ∧ g ≤ 999999) (hz : ∀ z ∈ zs, 0 ≤ z ∧ z ≤ 99) (h : IntL w A zs) :
    Calls Try.prog 52 #[.agg #[.int .i64 g, .slice A n c]] w fun e w' => e = .returned (.string (rootTx g zs)) ∧ Below w.heap.size w w' := by
  obtain ⟨gn, rfl⟩ : ∃ gn : Nat, g = gn := ⟨g.toNat, by omega⟩
  have hb0 := alloc_below w (.cells #[.int .i64 gn, .slice A n c] 31)
  have X := Box.new w 31 #[.int .i64 (gn : Int), .slice A n c]
  have HD6 := Lib.hid (fun W => digitsOf 6 gn W (by omega) (by omega))
  rw [show ((6 : Nat) : Int) = 6 from rfl] at HD6
  have HT : Hid (rootTx gn zs = bs (digs 6 gn ++ tabTx zs ++ digs 6 gn)) := Lib.hid (by unfold rootTx; rw [Int.toNat_natCast])
  have HLd := Lib.hid (digs_len 6 gn)
  generalize digs 6 gn = gd at HD6 HT HLd
  have HL := Lib.hid hl
  have H := Lib.hid h
  have HZ := Lib.hid hz
  clear hl h hz hg
  go_enter Try.func52, Try.ntmps52
  go_wp2_with fail
  refine (HD6.out _).mono ?_
  rintro e w1 ⟨rfl, hb1⟩
  have X1 := X.step hb1
  have f1 := X1.cell 1 rfl
  have hb := bt hb0 hb1
  clear hb0 hb1 X X1 HD6
  go_wp2
  go_loopw [14, 4] (fun i t wr => ∃ k : Nat, k ≤ n ∧ i = .int .i64 k ∧ t = .string (bs (gd ++ tabTx (zs.take k))) ∧ Below w.heap.size w wr) (fun i _ _ => n - (intOf i).toNat)
  case atStart => exact ⟨0, Nat.zero_le _, rfl, by simp [tabTx], hb⟩
  case round =>
    obtain ⟨k, hk, rfl, rfl, hbw⟩ := hrel
    have hsz : (bs (gd ++ tabTx (zs.take k))).size ≤ 40 := by
      rw [bs_size, List.length_append, HLd.out, tabTx_len, List.length_take]; omega
    by_cases hlt : k < n
    · obtain ⟨b, off, rfl, hc⟩ := (H.out.below hbw) k (by rw [HL.out]; exact hlt)
      have hzk : 0 ≤ zs.getD k 0 ∧ zs.getD k 0 ≤ 99 := HZ.out _ (by rw [List.getD_eq_getElem?_getD, List.getElem?_eq_getElem (by rw [HL.out]; exact hlt)]; exact List.getElem_mem _)
      have HS := Lib.hid (tabTx_step zs k (by rw [HL.out]; exact hlt))
      generalize zs.getD k 0 = z at hc HS hzk
      obtain ⟨zn, rfl⟩ : ∃ zn : Nat, z = zn := ⟨z.toNat, by omega⟩
      rw [Int.toNat_natCast] at HS
      have HD2 := Lib.hid (fun W => digitsOf 2 zn W (by omega) (by omega))
      rw [show ((2 : Nat) : Int) = 2 from rfl] at HD2
      have hs2 : (bs (digs 2 zn)).size = 2 := by rw [bs_size, digs_len]
      have HN : Hid (bs (gd ++ tabTx (zs.take k)) ++ bs (digs 2 zn) = bs (gd ++ tabTx (zs.take (k + 1)))) := Lib.hid (by rw [bs_app, HS.out, List.append_assoc])
      have hnl : ¬ 9223372036854775807 < (bs (gd ++ tabTx (zs.take k))).size + (bs (digs 2 zn)).size := by omega
      have hi : (k : Int) < (n : Int) := by omega
      clear hs2 hsz
      generalize bs (digs 2 zn) = d2 at HD2 HN hnl
      generalize bs (gd ++ tabTx (zs.take k)) = t at HN hnl
      go_wp2_with fail
      refine (HD2.out _).mono ?_
      rintro e w2 ⟨rfl, hb2⟩
      go_wp2
      go_roundw
      case rel => exact ⟨k + 1, by omega, by go_num, by rw [HN.out], bt hbw hb2⟩
      case measure => simp [intOf]; omega
    · have hs6 : (bs gd).size = 6 := by rw [bs_size, HLd.out]
      have HN : Hid (bs (gd ++ tabTx (zs.take k)) ++ bs gd = rootTx gn zs) := Lib.hid (by rw [bs_app, HT.out, List.take_of_length_le (by rw [HL.out]; omega)])
      have hnl : ¬ 9223372036854775807 < (bs (gd ++ tabTx (zs.take k))).size + (bs gd).size := by omega
      clear hs6 hsz
      generalize bs (gd ++ tabTx (zs.take k)) = t at HN hnl
      generalize bs gd = d6 at HN hnl
      go_wp2
      go_ret
      exact ⟨ret_str HN.out, hbw⟩
set_option maxRecDepth 100000 in
set_option maxHeartbeats 1000000 in
theorem l02Text (g : Int) (A : Option Addr) (n c : Nat) (zs : List Int) (w : World) (hl : zs.length = n) (hn : n ≤ 17) (hg : 0 ≤ g ∧ g ≤ 999999) (hz : ∀ z ∈ zs, 0 ≤ z ∧ z ≤ 99) (h : IntL w A zs) :
    Calls Try.prog 71 #[.agg #[.int .i64 g, .slice A n c]] w fun e w' => e = .returned (.string (rootTx g zs)) ∧ Below w.heap.size w w' := by
  obtain ⟨gn, rfl⟩ : ∃ gn : Nat, g = gn := ⟨g.toNat, by omega⟩
  have hb0 := alloc_below w (.cells #[.int .i64 gn, .slice A n c] 31)
  have X := Box.new w 31 #[.int .i64 (gn : Int), .slice A n c]
  have HD6 := Lib.hid (fun W => l02Digits 5 gn W (by omega) (by omega))
  rw [show ((5 + 1 : Nat) : Int) = 6 from rfl, show 5 + 1 = 6 from rfl] at HD6
  have HT : Hid (rootTx gn zs = bs (digs 6 gn ++ tabTx zs ++ digs 6 gn)) := Lib.hid (by unfold rootTx; rw [Int.toNat_natCast])
  have HLd := Lib.hid (digs_len 6 gn)
  generalize digs 6 gn = gd at HD6 HT HLd
  have HL := Lib.hid hl
  have H := Lib.hid h
  have HZ := Lib.hid hz
  clear hl h hz hg
  go_enter Try.func71, Try.ntmps71
  go_wp2_with fail
  refine (HD6.out _).mono ?_
  rintro e w1 ⟨rfl, hb1⟩
  have X1 := X.step hb1
  have HX1 := Lib.hid X1
  have hb := bt hb0 hb1
  clear hb0 hb1 X X1
  go_wp2
  go_loopw [4, 3] (fun i t wr => ∃ k : Nat, k ≤ n ∧ i = .int .i64 k ∧ t = .string (bs (gd ++ tabTx (zs.take k))) ∧ Below w.heap.size w wr ∧ Hid (Box wr w.heap.size 31 #[.int .i64 (gn : Int), .slice A n c])) (fun i _ _ => n - (intOf i).toNat)
  case atStart => exact ⟨0, Nat.zero_le _, rfl, by simp [tabTx], hb, HX1⟩
  case round =>
    obtain ⟨k, hk, rfl, rfl, hbw, HX⟩ := hrel
    have f0 := HX.out.cell 0 rfl
    have f1 := HX.out.cell 1 rfl
    have hsz : (bs (gd ++ tabTx (zs.take k))).size ≤ 40 := by
      rw [bs_size, List.length_append, HLd.out, tabTx_len, List.length_take]; omega
    by_cases hlt : k < n
    · obtain ⟨b, off, rfl, hc⟩ := (H.out.below hbw) k (by rw [HL.out]; exact hlt)
      have hzk : 0 ≤ zs.getD k 0 ∧ zs.getD k 0 ≤ 99 := HZ.out _ (by rw [List.getD_eq_getElem?_getD, List.getElem?_eq_getElem (by rw [HL.out]; exact hlt)]; exact List.getElem_mem _)
      have HS := Lib.hid (tabTx_step zs k (by rw [HL.out]; exact hlt))
      generalize zs.getD k 0 = z at hc HS hzk
      obtain ⟨zn, rfl⟩ : ∃ zn : Nat, z = zn := ⟨z.toNat, by omega⟩
      rw [Int.toNat_natCast] at HS
      have HD2 := Lib.hid (fun W => l02Digits 1 zn W (by omega) (by omega))
      rw [show ((1 + 1 : Nat) : Int) = 2 from rfl, show 1 + 1 = 2 from rfl] at HD2
      have hs2 : (bs (digs 2 zn)).size = 2 := by rw [bs_size, digs_len]
      have HN : Hid (bs (gd ++ tabTx (zs.take k)) ++ bs (digs 2 zn) = bs (gd ++ tabTx (zs.take (k + 1)))) := Lib.hid (by rw [bs_app, HS.out, List.append_assoc])
      have hnl : ¬ 9223372036854775807 < (bs (gd ++ tabTx (zs.take k))).size + (bs (digs 2 zn)).size := by omega
      have hi : (k : Int) < (n : Int) := by omega
      clear hs2 hsz
      generalize bs (digs 2 zn) = d2 at HD2 HN hnl
      generalize bs (gd ++ tabTx (zs.take k)) = t at HN hnl
      go_wp2_with fail
      refine (HD2.out _).mono ?_
      rintro e w2 ⟨rfl, hb2⟩
      go_wp2
      go_roundw
      case rel => exact ⟨k + 1, by omega, by go_num, by rw [HN.out], bt hbw hb2, Lib.hid (HX.out.step hb2)⟩
      case measure => simp [intOf]; omega
    · have hs6 : (bs gd).size = 6 := by rw [bs_size, HLd.out]
      have HN : Hid (bs (gd ++ tabTx (zs.take k)) ++ bs gd = rootTx gn zs) := Lib.hid (by rw [bs_app, HT.out, List.take_of_length_le (by rw [HL.out]; omega)])
      have hnl : ¬ 9223372036854775807 < (bs (gd ++ tabTx (zs.take k))).size + (bs gd).size := by omega
      clear hs6 hsz
      generalize bs (gd ++ tabTx (zs.take k)) = t at HN hnl
      generalize bs gd = d6 at HN hnl HD6
      go_wp2_with fail
      refine (HD6.out _).mono ?_
      rintro e w2 ⟨rfl, hb2⟩
      go_wp2
      go_ret
      exact ⟨ret_str HN.out, bt hbw hb2⟩

end Go.Proofs.Ytcchhbkbnbphhaa

/- spec.l02TornAsk. -/
namespace Go.Proofs.Ytcchhbkbnbphhaa
open Go.RowKit

def tornC (ph : Int) (fs : List Int) : Int := if fateB ph = true ∧ okF fs = true then 0 else 4

set_option maxRecDepth 100000 in
set_option maxHeartbeats 1000000 in
theorem tornAsk (ph : Int) (F : Option Addr) (nf cf : Nat) (fs : List Int) (w : World) (hf : fs.length = nf) (hnf : nf ≤ maxLen) (i : IntL w F fs) :
    Calls Try.prog 43 #[.int .i64 ph, .slice F nf cf] w fun e w' => e = .returned (.int .i64 (tornC ph fs)) ∧ w = w' := by
  have H1 := Lib.hid (l01In2 ph w)
  have H2 := Lib.hid (l01Fates F nf cf fs w hf hnf i)
  have HT : Hid (tornC ph fs = if fateB ph = true ∧ okF fs = true then 0 else 4) := Lib.hid rfl
  generalize fateB ph = p at H1 HT
  generalize okF fs = q at H2 HT
  clear hf hnf i
  go_enter Try.func43, Try.ntmps43
  go_wp2_with fail
  refine H1.out.mono ?_
  rintro e w1 ⟨rfl, rfl⟩
  cases p
  · go_wp2
    go_ret
    exact ⟨by rw [HT.out]; rfl, rfl⟩
  · go_wp2_with fail
    refine H2.out.mono ?_
    rintro e w2 ⟨rfl, rfl⟩
    cases q
    · go_wp2
      go_ret
      exact ⟨by rw [HT.out]; rfl, rfl⟩
    · go_wp2
      go_ret
      exact ⟨by rw [HT.out]; rfl, rfl⟩
end Go.Proofs.Ytcchhbkbnbphhaa

/- Contracts of the model's l01Write and of spec.WriteDisk. -/
namespace Go.Proofs.Ytcchhbkbnbphhaa
open Go.RowKit

theorem own_emptyW {w : World} {base g : Nat} (hb : base ≤ g) (hg : Box w g 67 #[]) : w.ownsRow base 67 2 (.slice (some ⟨g, 0, none⟩) 0 0) 0 (cellsW []) :=
  ⟨rfl, .inr ⟨g, 0, #[], rfl, hb, hg, Nat.le_refl _, Nat.zero_le _, rfl, rfl⟩⟩
theorem ownsRow_lower {w : World} {base base' n : Nat} {e : TypeId} {size : Nat} {v : Value} {xs : List Value} (h : w.ownsRow base e size v n xs) (hb : base' ≤ base) : w.ownsRow base' e size v n xs := by
  obtain ⟨h1, h0 | ⟨g, cap, cur, rfl, q1, q2⟩⟩ := h
  · exact ⟨h1, .inl h0⟩
  · exact ⟨h1, .inr ⟨g, cap, cur, rfl, by omega, q2⟩⟩
theorem owns_new {w w' : World} {g base n cap : Nat} {A' : Option Addr} {ws : List (Int × ByteArray)} (hl : ws.length = n) (hg : Box w g 67 #[]) (hb : base ≤ g) (h : n = 0 ∧ A' = some ⟨g, 0, none⟩ ∧ cap = 0 ∧ w' = w ∨ 0 < n ∧ w'.ownsRow w.heap.size 67 2 (.slice A' n cap) n (cellsW ws)) : w'.ownsRow base 67 2 (.slice A' n cap) n (cellsW ws) := by
  rcases h with ⟨h0, rfl, rfl, rfl⟩ | ⟨hn, h⟩
  · obtain rfl : ws = [] := List.eq_nil_of_length_eq_zero (by omega)
    subst h0
    exact own_emptyW hb hg
  · have := hg.lt
    exact ownsRow_lower h (by omega)
theorem ownBlock_ge {w : World} {base n cap : Nat} {e : TypeId} {size : Nat} {A : Option Addr} {xs : List Value} (h : w.ownsRow base e size (.slice A n cap) n xs) : ∀ k, (Value.slice A n cap).ownBlock = some k → base ≤ k := by
  intro k hk
  obtain ⟨h1, ⟨h0, _⟩ | ⟨g, cap', cur, hv, q1, q2⟩⟩ := h
  · injection h0 with h0; subst h0; simp [Value.ownBlock] at hk
  · injection hv with hv; subst hv; simp [Value.ownBlock] at hk; omega

def GivesWrite (A : Option Addr) (n c m : Nat) (rw' : List (Int × ByteArray)) (w : World) (e : Ending) (w' : World) : Prop :=
  ∃ C' d', e = .returned (.agg #[.slice A n c, .slice C' m d']) ∧ Hid (OwnW w' w.heap.size w'.heap.size C' rw') ∧ Below w.heap.size w w'

set_option maxRecDepth 100000 in
set_option maxHeartbeats 4000000 in
theorem l01Write (A C : Option Addr) (n c m d : Nat) (ws : List (Int × ByteArray)) (a : Int) (t : ByteArray) (w : World) (hm : ws.length = m) (hmm : m ≤ 60) (g : WrL w C ws) :
    Calls Try.prog 70 #[.agg #[.slice A n c, .slice C m d], .int .i64 a, .string t] w (GivesWrite A n c (m + 1) (ws ++ [(a, t)]) w) := by
  have HL := Lib.hid hm
  have HSw := Lib.hid (fun W (hb : Below w.heap.size w W) => srcW hm g hb)
  have HCw : Hid ((cellsW ws).length = m * 2) := Lib.hid (by rw [cellsW_len]; omega)
  clear hm g
  obtain ⟨i1, hi0, hz0, hz1, hz2⟩ := infoWx
  have HJ := Lib.hid (And.intro hi0 (And.intro hz0 (And.intro hz1 hz2)))
  clear hi0 hz0 hz1 hz2
  obtain ⟨W0, hW0⟩ : ∃ W0, W0 = (((w.alloc (.cells #[.slice A n c, .slice C m d] 26)).alloc (.cells #[.slice none 0 0, .slice none 0 0] 26)).alloc (.cells #[] 67)) := ⟨_, rfl⟩
  have hb0 : Below w.heap.size w W0 := by rw [hW0]; exact bt (bt (alloc_below _ _) (alloc_below _ _)) (alloc_below _ _)
  have hs0 : W0.heap.size = w.heap.size + 1 + 1 + 1 := by rw [hW0]; simp
  have X0 : Box W0 w.heap.size 26 #[.slice A n c, .slice C m d] := by rw [hW0]; exact ((Box.new _ _ _).alloc _).alloc _
  have Y0 : Box W0 (w.heap.size + 1) 26 #[.slice none 0 0, .slice none 0 0] := by rw [hW0]; simpa using (Box.new (w.alloc (.cells #[.slice A n c, .slice C m d] 26)) 26 #[.slice none 0 0, .slice none 0 0]).alloc (.cells #[] 67)
  have Z0 : Box W0 (w.heap.size + 1 + 1) 67 #[] := by rw [hW0]; simpa using Box.new ((w.alloc (.cells #[.slice A n c, .slice C m d] 26)).alloc (.cells #[.slice none 0 0, .slice none 0 0] 26)) 67 #[]
  have HZ := Lib.hid Z0
  have HX := Lib.hid (And.intro X0 Y0)
  have HS0 := Lib.hid hs0
  have HSrc := Lib.hid (HSw.out W0 hb0)
  have HB0 := Lib.hid hb0
  have HW0 := Lib.hid hW0
  clear hW0 X0 Y0 Z0 hs0 hb0 HSw
  go_enter Try.func70, Try.ntmps70
  go_wp2_with (at_builtin; refine wpList_app_new rfl (.tmp 7) (.tmp 9) 24 rfl 67 i1 (.agg #[.int .i64 0, .string ByteArray.empty]) 2 24 Try.underlying24 HJ.out.1 HJ.out.2.1 HJ.out.2.2.1 HJ.out.2.2.2 rfl (by decide) ⟨w.heap.size + 1 + 1, 0, none⟩ rfl C m d (cellsW ws) rfl HCw.out ?hsrc ?h63 ?hby ?_)
  case hsrc => rw [← HW0.out]; exact HSrc.out
  case h63 => unfold maxLen; omega
  case hby => omega
  rw [← HW0.out]
  intro A1 cap1 w1 hb1x O1
  have hb1 : Below W0.heap.size W0 w1 := by rw [HS0.out]; exact hb1x
  have HO1 := Lib.hid (owns_new (base := w.heap.size + 1 + 1) HL.out HZ.out (Nat.le_refl _) (by rw [HS0.out]; exact O1.out))
  have HX1 := Lib.hid (And.intro (HX.out.1.step hb1) (HX.out.2.step hb1))
  have hb2 := Lib.hid (bt HB0.out hb1)
  have HS1 : Hid (w.heap.size + 1 + 1 + 1 ≤ w1.heap.size) := Lib.hid (by have := hb1.size; have := HS0.out; omega)
  clear O1 hb1 hb1x HX HZ HSrc HW0 HS0 HB0 W0
  have k2 := Lib.hid (alloc_below w1 (.cells #[.int .i64 a, .string t] 67))
  have HOw : Hid ((w1.alloc (.cells #[.int .i64 a, .string t] 67)).ownsRow (w.heap.size + 1 + 1) 67 2 (.slice A1 m cap1) m (cellsW ws)) := Lib.hid (by
    obtain ⟨q1, h0 | ⟨gq, cq, cur, hv, q2, q3, q4⟩⟩ := HO1.out
    · exact ⟨q1, .inl h0⟩
    · refine ⟨q1, .inr ⟨gq, cq, cur, hv, q2, ?_, q4⟩⟩
      rw [k2.out.block gq (by rcases Nat.lt_or_ge gq w1.heap.size with hlt | hge; exact hlt; rw [Array.getElem?_eq_none hge] at q3; cases q3)]
      exact q3)
  have HNw : Hid (∀ j u, [Value.int .i64 a, Value.string t][j]? = some u → (w1.alloc (.cells #[.int .i64 a, .string t] 67)).cell? ((⟨w1.heap.size, 0, none⟩ : Addr).add j) = some u) := Lib.hid (fun j u hj => by
    have hB := Box.new w1 67 #[.int .i64 a, .string t]
    match j, hj with
    | 0, hj => simp at hj; subst hj; exact hB.cell 0 rfl
    | 1, hj => simp at hj; subst hj; exact hB.cell 1 rfl)
  go_wp2_with (at_builtin; refine wpList_append_own _ rfl (.tmp 10) (.tmp 14) 24 rfl (w.heap.size + 1 + 1) 67 i1 (.agg #[.int .i64 0, .string ByteArray.empty]) 2 24 Try.underlying24 HJ.out.1 HJ.out.2.1 HJ.out.2.2.1 HJ.out.2.2.2 rfl (by decide) _ m (cellsW ws) rfl ?hown ⟨w1.heap.size, 0, none⟩ 1 1 [.int .i64 a, .string t] rfl rfl ?hnews ?hone ?h63 ?hby ?hbase ?_)
  case hown => exact HOw.out
  case hnews => exact HNw.out
  case hone => intro u hu; simp at hu; rcases hu with rfl | rfl <;> rfl
  case h63 => unfold maxLen; omega
  case hby => omega
  case hbase => have := HS1.out; simp; omega
  intro v1 w4 hown hgr hniff
  rw [cellsW_snoc] at hown
  obtain ⟨gg, cap, hv, p1, p2, p3, p4⟩ := ownW_of_owns hown (by omega)
  rw [hv]
  have hge := ownBlock_ge HOw.out
  have hb5 : Below (w.heap.size + 1 + 1) (w1.alloc (.cells #[.int .i64 a, .string t] 67)) w4 := below_of_grown hgr hge (by have := HS1.out; simp; omega)
  have X4 : Box w4 w.heap.size 26 #[.slice A n c, .slice C m d] := (HX1.out.1.step k2.out).below hb5 (by omega)
  have Y4 : Box w4 (w.heap.size + 1) 26 #[.slice none 0 0, .slice none 0 0] := (HX1.out.2.step k2.out).below hb5 (by omega)
  have HB6 := Lib.hid ((bt hb2.out k2.out).trans (hb5.mono (by omega)))
  have HP4 := Lib.hid (p4 gg (gg + 1) (Nat.le_refl _) (by omega))
  have HG : Hid (w.heap.size + 1 + 1 ≤ gg ∧ gg < w4.heap.size) := Lib.hid ⟨p1, p2⟩
  have f0 := X4.cell 0 rfl
  have f1 := X4.cell 1 rfl
  have f2 := X4.frozen 1
  have y0 := Y4.cell 0 rfl
  have y1 := Y4.cell 1 rfl
  have y2 := Y4.frozen 0
  have y3 := Y4.frozen 1
  clear hown hgr hniff hv p1 p2 p3 p4 hge hb5 X4 Y4 k2 HOw HNw HX1 HJ i1 v1 HO1
  go_wp2
  refine bodyPost_ret (v := .agg #[.slice A n c, .slice (some ⟨gg, 0, none⟩) (m + 1) cap]) (by simp [results, Try.results70, go_sem, y0, y1]) rfl ?_
  have hg' := HG.out
  have kA : Btw w.heap.size (w.heap.size + 1) w4 (w4.setCell ⟨w.heap.size, 1, none⟩ (.slice (some ⟨gg, 0, none⟩) (m + 1) cap)) := (Btw.refl _ _ _).setCell (by show w.heap.size ≤ w.heap.size; omega) (by show w.heap.size < w.heap.size + 1; omega) _
  have es : (w4.setCell ⟨w.heap.size, 1, none⟩ (.slice (some ⟨gg, 0, none⟩) (m + 1) cap)).heap.size = w4.heap.size := by simp [World.setCell]
  have OW := HP4.out.btw kA (by omega)
  exact ⟨_, _, rfl, Lib.hid (ownW_stored3 (by omega) (by omega) (by rw [es]; exact hg'.2) OW), below_stored (HB6.out.setCell (by show w.heap.size ≤ w.heap.size; omega) _)⟩

end Go.Proofs.Ytcchhbkbnbphhaa

/- The model's source of draws: a disk. -/
namespace Go.Proofs.Ytcchhbkbnbphhaa
open Go.RowKit

theorem btw_below {lo hi B : Nat} {w w1 w2 : World} (h : Btw lo hi w w1) (hb : Below B w1 w2) (hB : w.heap.size ≤ B) : Btw lo hi w w2 :=
  ⟨hb.os.trans h.os, hb.tape.trans h.tape, hb.output.trans h.output, Nat.le_trans h.size hb.size, fun k hk ho => (hb.block k (Nat.lt_of_lt_of_le hk hB)).trans (h.block k hk ho)⟩
theorem OwnS.far {w : World} {lo hi D : Nat} {A : Option Addr} {ss : List ByteArray} {cs : Array Value} (h : OwnS w lo hi A ss) (X : Box w D 26 cs) (j : Nat) (u : Value) : OwnS (w.setCell ⟨D, j, none⟩ u) lo hi A ss := by
  rcases h with e | ⟨b, m, f, e, q1, q2, q3, q4, q5⟩
  · exact .inl e
  · exact .inr ⟨b, m, f, e, q1, q2, q3, q4.setOther (X.ne q4 (by decide)).symm u, q5⟩
theorem OwnW.far {w : World} {lo hi D : Nat} {A : Option Addr} {ws : List (Int × ByteArray)} {cs : Array Value} (h : OwnW w lo hi A ws) (X : Box w D 26 cs) (j : Nat) (u : Value) : OwnW (w.setCell ⟨D, j, none⟩ u) lo hi A ws := by
  rcases h with e | ⟨b, m, f, e, q1, q2, q3, q4, q5⟩
  · exact .inl e
  · exact .inr ⟨b, m, f, e, q1, q2, q3, q4.setOther (X.ne q4 (by decide)).symm u, q5⟩

structure DK (lo R D : Nat) (A : Option Addr) (n c : Nat) (C : Option Addr) (m d : Nat) (ss : List ByteArray) (ws : List (Int × ByteArray)) (w : World) : Prop where
  x : Box w D 26 #[.slice A n c, .slice C m d]
  y : Box w R 26 #[.slice none 0 0, .slice none 0 0]
  s : OwnS w lo w.heap.size A ss
  r : OwnW w lo w.heap.size C ws
theorem DK.btw {lo b R D : Nat} {A : Option Addr} {n c : Nat} {C : Option Addr} {m d : Nat} {ss : List ByteArray} {ws : List (Int × ByteArray)} {w w' : World} (h : DK lo R D A n c C m d ss ws w) (hb : Btw b (b + 1) w w') (h1 : b < lo) (h2 : lo ≤ R) (h3 : lo ≤ D) : DK lo R D A n c C m d ss ws w' :=
  ⟨h.x.btw hb (.inr (by omega)), h.y.btw hb (.inr (by omega)), (h.s.btw hb (.inr (by omega))).wide (Nat.le_refl _) hb.size, (h.r.btw hb (.inr (by omega))).wide (Nat.le_refl _) hb.size⟩
theorem DK.step {lo R D : Nat} {A : Option Addr} {n c : Nat} {C : Option Addr} {m d : Nat} {ss : List ByteArray} {ws : List (Int × ByteArray)} {w w' : World} (h : DK lo R D A n c C m d ss ws w) (hb : Below w.heap.size w w') : DK lo R D A n c C m d ss ws w' :=
  ⟨h.x.step hb, h.y.step hb, (h.s.btw (Btw.of_below hb 0 0) (.inr (Nat.zero_le _))).wide (Nat.le_refl _) hb.size, (h.r.btw (Btw.of_below hb 0 0) (.inr (Nat.zero_le _))).wide (Nat.le_refl _) hb.size⟩
theorem DK.store {lo R D : Nat} {A : Option Addr} {n c : Nat} {C : Option Addr} {m d : Nat} {ss : List ByteArray} {ws : List (Int × ByteArray)} {w : World} (h : DK lo R D A n c C m d ss ws w) (hne : R ≠ D) {A2 : Option Addr} {n2 c2 : Nat} {C2 : Option Addr} {m2 d2 : Nat} {ss2 : List ByteArray} {ws2 : List (Int × ByteArray)} (S2 : OwnS w lo w.heap.size A2 ss2) (R2 : OwnW w lo w.heap.size C2 ws2) :
    DK lo R D A2 n2 c2 C2 m2 d2 ss2 ws2 ((w.setCell ⟨D, 0, none⟩ (.slice A2 n2 c2)).setCell ⟨D, 1, none⟩ (.slice C2 m2 d2)) := by
  have es : ((w.setCell ⟨D, 0, none⟩ (.slice A2 n2 c2)).setCell ⟨D, 1, none⟩ (.slice C2 m2 d2)).heap.size = w.heap.size := by simp [World.setCell]
  have x1 := h.x.set 0 (.slice A2 n2 c2)
  exact ⟨x1.set 1 (.slice C2 m2 d2), (h.y.far (p := ⟨D, 0, none⟩) hne _).far (p := ⟨D, 1, none⟩) hne _, by rw [es]; exact (S2.far h.x 0 _).far x1 1 _, by rw [es]; exact (R2.far h.x 0 _).far x1 1 _⟩

theorem ok_new : Ok newSs [] := by
  refine ⟨by simp [newSs], by simp, fun s hs => ?_, (fun x hx => by cases hx), (fun x hx => by cases hx)⟩
  simp [newSs] at hs
  subst hs
  simp
end Go.Proofs.Ytcchhbkbnbphhaa

/- Contract of the model's l02Lay: the writes of a list, one after the other, into the cache. -/
namespace Go.Proofs.Ytcchhbkbnbphhaa
open Go.RowKit

def GivesLay (A : Option Addr) (n c m : Nat) (ws : List (Int × ByteArray)) (w : World) (e : Ending) (w' : World) : Prop :=
  ∃ C' d', e = .returned (.agg #[.slice A n c, .slice C' m d']) ∧ Hid (WrL w' C' ws) ∧ Below w.heap.size w w'

theorem wrl_far {w : World} {D : Nat} {t : TypeId} {C : Option Addr} {ws : List (Int × ByteArray)} {p q : Value} (hp : ∀ z, p ≠ .int .i64 z) (hq : ∀ z, q ≠ .int .i64 z) (g : WrL w C ws) (X : Box w D t #[p, q]) (j : Nat) (u : Value) : WrL (w.setCell ⟨D, j, none⟩ u) C ws := fun i hi => by
  obtain ⟨b, off, hC, h1, h2⟩ := g i hi
  have hne : b ≠ D := by
    rintro rfl
    have hx : w.cell? ⟨b, off + i * 2, none⟩ = (#[p, q] : Array Value)[off + i * 2]? := by
      unfold Box at X; simp [World.cell?, X]
    rw [h1] at hx
    match off + i * 2, hx with
    | 0, hx => simp at hx; exact hp _ hx.symm
    | 1, hx => simp at hx; exact hq _ hx.symm
    | k + 2, hx => simp at hx
  have he := Below.heap_setCell w ⟨D, j, none⟩ u b hne
  refine ⟨b, off, hC, ?_, ?_⟩
  · rw [← h1]; simp only [World.cell?, he]
  · rw [← h2]; simp only [World.cell?, he]

set_option maxRecDepth 100000 in
set_option maxHeartbeats 4000000 in
theorem l02Lay (A C B : Option Addr) (n c m d k f : Nat) (ws ls : List (Int × ByteArray)) (w : World) (hm : ws.length = m) (hk : ls.length = k) (hmk : m + k ≤ 60) (g : WrL w C ws) (gl : WrL w B ls) :
    Calls Try.prog 69 #[.agg #[.slice A n c, .slice C m d], .slice B k f] w (GivesLay A n c (m + k) (ws ++ ls) w) := by
  have HM := Lib.hid hm
  have HK := Lib.hid hk
  have HL := Lib.hid (fun W (hb : Below w.heap.size w W) => gl.below hb)
  obtain ⟨W0, hW0⟩ : ∃ W0, W0 = ((w.alloc (.cells #[.slice A n c, .slice C m d] 26)).alloc (.cells #[.slice none 0 0, .slice none 0 0] 26)) := ⟨_, rfl⟩
  have hb0 : Below w.heap.size w W0 := by rw [hW0]; exact bt (alloc_below _ _) (alloc_below _ _)
  have X0 : Hid (Box W0 w.heap.size 26 #[.slice A n c, .slice C m d]) := Lib.hid (by rw [hW0]; exact (Box.new _ _ _).alloc _)
  have Y0 : Hid (Box W0 (w.heap.size + 1) 26 #[.slice none 0 0, .slice none 0 0]) := Lib.hid (by rw [hW0]; simpa using Box.new (w.alloc (.cells #[.slice A n c, .slice C m d] 26)) 26 #[.slice none 0 0, .slice none 0 0])
  have G0 := Lib.hid (g.below hb0)
  have HW0 := Lib.hid hW0
  clear hm hk g gl hW0
  go_enter Try.func69, Try.ntmps69
  go_wp2
  rw [← HW0.out]
  clear HW0
  go_loopw [5] (fun i wr => ∃ (j : Nat) (C' : Option Addr) (d' : Nat), j ≤ k ∧ i = .int .i64 (j : Int) ∧ Hid (Box wr w.heap.size 26 #[.slice A n c, .slice C' (m + j) d']) ∧ Hid (Box wr (w.heap.size + 1) 26 #[.slice none 0 0, .slice none 0 0]) ∧ Hid (WrL wr C' (ws ++ ls.take j)) ∧ Below w.heap.size w wr) (fun i _ => k - (intOf i).toNat)
  case atStart => exact ⟨0, C, d, Nat.zero_le _, rfl, X0, Y0, Lib.hid (by simpa using G0.out), hb0⟩
  case round =>
    clear X0 Y0 G0 hb0
    obtain ⟨j, C', d', hj, rfl, X, Y, G, hbw⟩ := hrel
    have f0 := X.out.cell 0 rfl
    have f1 := X.out.cell 1 rfl
    by_cases hlt : j < k
    · have HT : Hid (ws ++ ls.take (j + 1) = (ws ++ ls.take j) ++ [ls.getD j (0, ByteArray.empty)]) := Lib.hid (by
        have hjl : j < ls.length := by rw [HK.out]; exact hlt
        rw [List.take_succ_eq_append_getElem hjl, List.append_assoc]
        simp [List.getD, List.getElem?_eq_getElem hjl])
      have HN : Hid ((ws ++ ls.take j).length = m + j) := Lib.hid (by have := HM.out; have := HK.out; simp; omega)
      obtain ⟨b, off, hB, hc1, hc2⟩ := (HL.out wr hbw) j (by rw [HK.out]; exact hlt)
      subst hB
      generalize ls.getD j (0, ByteArray.empty) = p at hc1 hc2 HT
      obtain ⟨a, t⟩ := p
      dsimp only at hc1 hc2
      generalize ws ++ ls.take j = rs at HT HN G
      have hi : (j : Int) < (k : Int) := by omega
      have h60 : m + j ≤ 60 := by omega
      have h6 : Below wr.heap.size wr wr.drew := (Below.refl _ _).drew
      go_wp2
      go_region_with (go_at_call 70; refine (l01Write A C' n c (m + j) d' rs a t wr.drew HN.out h60 (G.out.below h6)).mono ?_; rintro e wd ⟨C2, d2, rfl, RW, hbd⟩; have kd := bt h6 hbd; have zb := Lib.hid (X.out.step kd); have zy := Lib.hid (Y.out.step kd); have y0 := zb.out.cell 0 rfl; have y1 := zb.out.cell 1 rfl; have y2 := zb.out.frozen 0; have y3 := zb.out.frozen 1)
      all_goals
        have x1 := zb.out.set 0 (.slice A n c)
        have NX := Lib.hid (x1.set 1 (.slice C2 (m + j + 1) d2))
        have NY := Lib.hid ((zy.out.far (p := ⟨w.heap.size, 0, none⟩) (by show w.heap.size + 1 ≠ w.heap.size; omega) (.slice A n c)).far (p := ⟨w.heap.size, 1, none⟩) (by show w.heap.size + 1 ≠ w.heap.size; omega) (.slice C2 (m + j + 1) d2))
        have NG := Lib.hid ((RW.out.far zb.out 0 (.slice A n c)).far x1 1 (.slice C2 (m + j + 1) d2)).reads
        have NB := Lib.hid (((bt hbw kd).setCell (p := ⟨w.heap.size, 0, none⟩) (Nat.le_refl _) (.slice A n c)).setCell (p := ⟨w.heap.size, 1, none⟩) (Nat.le_refl _) (.slice C2 (m + j + 1) d2))
        clear x1 zb zy y0 y1 y2 y3 RW hbd kd f0 f1 hc1 hc2 X Y G
        go_wp2
        go_roundw
        case rel => exact ⟨j + 1, C2, d2, by omega, by go_num, NX, NY, Lib.hid (by rw [HT.out]; exact NG.out), NB.out⟩
        case measure => simp [intOf]; omega
    · obtain rfl : j = k := by omega
      have y0 := Y.out.cell 0 rfl
      have y1 := Y.out.cell 1 rfl
      have y2 := Y.out.frozen 0
      have y3 := Y.out.frozen 1
      have HG : Hid (WrL wr C' (ws ++ ls)) := Lib.hid (by have := G.out; rwa [List.take_of_length_le (by rw [HK.out]; exact Nat.le_refl _)] at this)
      go_wp2
      refine bodyPost_ret (v := .agg #[.slice A n c, .slice C' (m + j) d']) (by simp [results, Try.results69, go_sem, y0, y1]) rfl ?_
      exact ⟨C', d', rfl, Lib.hid (wrl_far (fun _ h => by cases h) (fun _ h => by cases h) (wrl_far (fun _ h => by cases h) (fun _ h => by cases h) HG.out Y.out 0 (.slice A n c)) (Y.out.set 0 (.slice A n c)) 1 (.slice C' (m + j) d')), below_stored hbw⟩
end Go.Proofs.Ytcchhbkbnbphhaa

/- Contract of impl.split. -/
namespace Go.Proofs.Ytcchhbkbnbphhaa
open Go.RowKit

set_option maxRecDepth 100000 in
theorem splitNone (w : World) :
    Calls Try.prog 35 #[.slice none 0 0] w fun e w' => e = .returned (.tuple #[.slice none 0 0, .slice none 0 0]) ∧ Below w.heap.size w w' := by
  go_enter Try.func35, Try.ntmps35
  go_wp2
  go_quiet (fail)
  go_wp2
  refine bodyPost_ret (v := .tuple #[.slice none 0 0, .slice none 0 0]) (by simp [results, Try.results35, go_sem]) rfl ?_
  exact ⟨rfl, below_drewN (Below.refl _ _) _⟩
set_option maxRecDepth 100000 in
theorem splitSome (b off k c : Nat) (w : World) (hk : k ≤ 60) (hc : k + 1 ≤ c) :
    Calls Try.prog 35 #[.slice (some ⟨b, off, none⟩) (k + 1) c] w fun e w' => e = .returned (.tuple #[.slice (some ⟨b, off, none⟩) k c, .slice (some ⟨b, off + k * 2, none⟩) 1 (c - k)]) ∧ Below w.heap.size w w' := by
  have h1 : ((k + 1 : Nat) : Int) - 1 = (k : Int) := by omega
  have h2 : max (k : Int) 0 = (k : Int) := by omega
  have h3 : ¬ (k : Int) < 0 := by omega
  have h4 : (k : Int) ≤ ((k + 1 : Nat) : Int) := by omega
  have h5 : (k : Int) ≤ (c : Int) := by omega
  have h6 : k ≤ c := by omega
  go_enter Try.func35, Try.ntmps35
  go_wp2
  go_quiet (fail)
  go_wp2
  refine bodyPost_ret (v := .tuple #[.slice (some ⟨b, off, none⟩) k c, .slice (some ⟨b, off + k * 2, none⟩) 1 (c - k)]) (by simp [results, Try.results35, go_sem]) rfl ?_
  exact ⟨rfl, below_drewN (Below.refl _ _) _⟩
end Go.Proofs.Ytcchhbkbnbphhaa

/- What the model draws out of a code: DiskOf, TextOf, FatesOf. -/
namespace Go.Proofs.Ytcchhbkbnbphhaa
open Go.RowKit

set_option maxRecDepth 100000 in
set_option maxHeartbeats 4000000 in
theorem fatesOf (A : Option Addr) (n c : Nat) (zs : List Nat) (w : World) (hn : n ≤ maxLen) (hl : zs.length = n) (h : ByB w w.heap.size A zs) :
    Calls Try.prog 17 #[.slice A n c] w (GivesFates (fatesX zs 0 (n % 1000)) (fun w' => Below w.heap.size w w')) := by
  have HC := Lib.hid (srcNewX A n c zs w hn hl h)
  clear hn hl h
  go_enter Try.func17, Try.ntmps17
  go_wp2_with fail
  refine HC.out.mono ?_
  rintro e w1 ⟨rfl, S1, hb1⟩
  go_wp2_with fail
  refine (srcFates w.heap.size A n c zs 0 (n % 1000) w1 (by omega) S1.out).mono ?_
  rintro e w2 ⟨F, nf, cf, rfl, L2, I2, R2⟩
  go_wp2
  refine bodyPost_ret (v := .slice F nf cf) (by simp [results, Try.results17, go_sem]) rfl ?_
  exact ⟨F, nf, cf, rfl, L2, I2, Lib.hid (hb1.trans (R2.out.below hb1.size))⟩

end Go.Proofs.Ytcchhbkbnbphhaa

/- laws.at, laws.sameTexts. -/
namespace Go.Proofs.Ytcchhbkbnbphhaa
open Go.RowKit

set_option maxRecDepth 100000 in
set_option maxHeartbeats 4000000 in
theorem lawAt (i N : Nat) (A : Option Addr) (n c : Nat) (zs : List Nat) (w : World) (hi : i ≤ 1000) (hN : 2 ≤ N) (hN2 : N ≤ 1000) (hn : n ≤ 1048576) (hl : zs.length = n) (h : ByB w w.heap.size A zs) :
    Calls Try.prog 16 #[.slice A n c, .int .i64 (i : Nat), .int .i64 (N : Nat)] w fun e w' => ∃ v : Nat, e = .returned (.int .i64 v) ∧ v < N ∧ Below w.heap.size w w' := by
  have h1 : ¬ (N : Int) ≤ 1 := by omega
  have h3 : ¬ (N : Int) = 0 := by omega
  have hi0 : (0 : Int) ≤ (i : Int) := by omega
  by_cases h0 : n = 0
  · have h0' : (n : Int) = 0 := by omega
    have u1 : (0 : Int) ≤ (i : Int) * 7 := by omega
    clear h hl
    go_enter Try.func16, Try.ntmps16
    go_wp2
    have e1 : (i : Int) * 7 % (N : Int) = ((i * 7 % N : Nat) : Int) := by simp
    rw [e1]
    refine bodyPost_ret (v := .int .i64 ((i * 7 % N : Nat) : Int)) (by simp [results, Try.results16, go_sem]) rfl ?_
    exact ⟨_, rfl, Nat.mod_lt _ (by omega), Below.refl _ _⟩
  · have h0' : ¬ (n : Int) = 0 := by omega
    obtain ⟨b, off, rfl, hb, hc, hv⟩ := h (i % n) (by rw [hl]; exact Nat.mod_lt _ (by omega))
    obtain ⟨b', off', eA, _, hc', hv'⟩ := h ((i + 1) % n) (by rw [hl]; exact Nat.mod_lt _ (by omega))
    injection eA with eA; injection eA with e1 e2; subst e1 e2
    generalize zs.getD (i % n) 0 = x at hc hv
    generalize zs.getD ((i + 1) % n) 0 = y at hc' hv'
    obtain ⟨p, hp⟩ : ∃ p, p = i % n := ⟨_, rfl⟩
    obtain ⟨q, hq⟩ : ∃ q, q = (i + 1) % n := ⟨_, rfl⟩
    obtain ⟨r, hr⟩ : ∃ r, r = i / n := ⟨_, rfl⟩
    rw [← hp] at hc
    rw [← hq] at hc'
    have t1 : (i : Int).tmod (n : Int) = (p : Int) := by rw [Int.tmod_eq_emod_of_nonneg (by omega), hp]; simp
    have t2 : ((i : Int) + 1).tmod (n : Int) = (q : Int) := by rw [Int.tmod_eq_emod_of_nonneg (by omega), hq]; simp
    have t3 : (i : Int).tdiv (n : Int) = (r : Int) := by rw [Int.tdiv_eq_ediv_of_nonneg (by omega), hr]; simp
    have hp1 : (p : Int) < (n : Int) := by have := Nat.mod_lt i (show 0 < n by omega); omega
    have hq1 : (q : Int) < (n : Int) := by have := Nat.mod_lt (i + 1) (show 0 < n by omega); omega
    have hr1 : r ≤ 1000 := by rw [hr]; exact Nat.le_trans (Nat.div_le_self _ _) hi
    clear hp hq hr h hl
    have t1' : (i : Int) % (n : Int) = (p : Int) := by rw [← t1, Int.tmod_eq_emod_of_nonneg (by omega)]
    have t2' : ((i : Int) + 1) % (n : Int) = (q : Int) := by rw [← t2, Int.tmod_eq_emod_of_nonneg (by omega)]
    have t3' : (i : Int) / (n : Int) = (r : Int) := by rw [← t3, Int.tdiv_eq_ediv_of_nonneg (by omega)]
    have u0 : IntKind.i64.wrap ((i : Int) + 1) = (i : Int) + 1 := IntWalk.i64_in _ ⟨by omega, by omega⟩
    have u1 : IntKind.i64.wrap (p : Int) = (p : Int) := IntWalk.i64_in _ ⟨by omega, by omega⟩
    have u2 : IntKind.i64.wrap (q : Int) = (q : Int) := IntWalk.i64_in _ ⟨by omega, by omega⟩
    have u3 : IntKind.i64.wrap (r : Int) = (r : Int) := IntWalk.i64_in _ ⟨by omega, by omega⟩
    have u4 : IntKind.i64.wrap (x : Int) = (x : Int) := IntWalk.i64_in _ ⟨by omega, by omega⟩
    have u5 : IntKind.i64.wrap (y : Int) = (y : Int) := IntWalk.i64_in _ ⟨by omega, by omega⟩
    have u6 : IntKind.i64.wrap ((x : Int) * 31) = (x : Int) * 31 := IntWalk.i64_in _ ⟨by omega, by omega⟩
    have u7 : IntKind.i64.wrap ((x : Int) * 31 + (y : Int)) = (x : Int) * 31 + (y : Int) := IntWalk.i64_in _ ⟨by omega, by omega⟩
    have u8 : IntKind.i64.wrap ((x : Int) * 31 + (y : Int) + (r : Int)) = (x : Int) * 31 + (y : Int) + (r : Int) := IntWalk.i64_in _ ⟨by omega, by omega⟩
    obtain ⟨z, hz⟩ : ∃ z, z = (x * 31 + y + r) % N := ⟨_, rfl⟩
    have hz1 : z < N := by rw [hz]; exact Nat.mod_lt _ (by omega)
    have t4' : ((x : Int) * 31 + (y : Int) + (r : Int)) % (N : Int) = (z : Int) := by rw [hz]; simp
    have t4 : ((x : Int) * 31 + (y : Int) + (r : Int)).tmod (N : Int) = (z : Int) := by rw [Int.tmod_eq_emod_of_nonneg (by omega), t4']
    have u9 : IntKind.i64.wrap (z : Int) = (z : Int) := IntWalk.i64_in _ ⟨by omega, by omega⟩
    clear hz
    go_enter Try.func16, Try.ntmps16
    go_wp2
    go_quiet (fail)
    go_wp2
    refine bodyPost_ret (v := .int .i64 (z : Int)) (by simp [results, Try.results16, go_sem]) rfl ?_
    exact ⟨z, rfl, hz1, below_drewN (Below.refl _ _) _⟩

set_option maxRecDepth 100000 in
set_option maxHeartbeats 2000000 in
theorem sameTexts (A A' : Option Addr) (n c c' : Nat) (ss : List ByteArray) (w : World) (hl : ss.length = n) (hn : n ≤ 1048576) (h : StrL w A ss) (h' : StrL w A' ss) :
    Calls Try.prog 14 #[.slice A n c, .slice A' n c'] w fun e w' => e = .returned (.bool true) ∧ Below w.heap.size w w' := by
  have HL := Lib.hid hl
  have H := Lib.hid h
  have H' := Lib.hid h'
  clear hl h h'
  have hb : ((n : Int) != (n : Int)) = false := by simp
  go_enter Try.func14, Try.ntmps14
  go_wp2
  go_loopw [5] (fun i wr => ∃ k : Nat, k ≤ n ∧ i = .int .i64 k ∧ Below w.heap.size w wr) (fun i _ => n - (intOf i).toNat)
  case atStart => exact ⟨0, Nat.zero_le _, rfl, Below.refl _ _⟩
  case round =>
    obtain ⟨k, hk, rfl, hbw⟩ := hrel
    by_cases hlt : k < n
    · obtain ⟨b, off, rfl, hc⟩ := (H.out.below hbw) k (by rw [HL.out]; exact hlt)
      obtain ⟨b', off', rfl, hc'⟩ := (H'.out.below hbw) k (by rw [HL.out]; exact hlt)
      generalize ss.getD k ByteArray.empty = x at hc hc'
      have hi : (k : Int) < (n : Int) := by omega
      have hq1 : (x.toList == x.toList) = true := by simp
      go_wp2
      go_quiet (fail)
      go_wp2
      go_roundw
      case rel => exact ⟨k + 1, by omega, by go_num, below_drewN hbw _⟩
      case measure => simp [intOf]; omega
    · go_wp2
      go_ret
      exact ⟨rfl, hbw⟩

set_option maxRecDepth 100000 in
set_option maxHeartbeats 4000000 in
theorem sameDiskT (A A' C C' : Option Addr) (n c c' m d d' : Nat) (ss : List ByteArray) (ws : List (Int × ByteArray)) (w : World) (hl : ss.length = n) (hm : ws.length = m) (hn : n ≤ 1048576) (hmm : m ≤ 1048576) (h : StrL w A ss) (h' : StrL w A' ss) (g : WrL w C ws) (g' : WrL w C' ws) :
    Calls Try.prog 13 #[.agg #[.slice A n c, .slice C m d], .agg #[.slice A' n c', .slice C' m d']] w fun e w' => e = .returned (.bool true) ∧ Below w.heap.size w w' := by
  obtain ⟨W0, hW0⟩ : ∃ W0, W0 = ((w.alloc (.cells #[.slice A n c, .slice C m d] 26)).alloc (.cells #[.slice A' n c', .slice C' m d'] 26)) := ⟨_, rfl⟩
  have hb0 : Below w.heap.size w W0 := by rw [hW0]; exact bt (alloc_below _ _) (alloc_below _ _)
  have X0 : Box W0 w.heap.size 26 #[.slice A n c, .slice C m d] := by rw [hW0]; exact (Box.new _ _ _).alloc _
  have Y0 : Box W0 (w.heap.size + 1) 26 #[.slice A' n c', .slice C' m d'] := by rw [hW0]; simpa using Box.new (w.alloc (.cells #[.slice A n c, .slice C m d] 26)) 26 #[.slice A' n c', .slice C' m d']
  have HC := Lib.hid (fun W (hb : Below w.heap.size w W) => sameTexts A A' n c c' ss W hl hn (h.below hb) (h'.below hb))
  have HX := Lib.hid (And.intro X0 Y0)
  have HW0 := Lib.hid hW0
  have HM := Lib.hid hm
  have G := Lib.hid g
  have G' := Lib.hid g'
  clear hl hm h h' g g' X0 Y0 hW0
  have hb : ((m : Int) != (m : Int)) = false := by simp
  go_enter Try.func13, Try.ntmps13
  go_wp2_with fail
  rw [← HW0.out]
  refine (HC.out W0 hb0).mono ?_
  rintro e w1 ⟨rfl, hb1⟩
  have HX1 := Lib.hid (And.intro (HX.out.1.step hb1) (HX.out.2.step hb1))
  have hb2 := bt hb0 hb1
  have f0 : w1.cell? ⟨w.heap.size, 1, none⟩ = some (.slice C m d) := HX1.out.1.cell 1 rfl
  have f1 : w1.cell? ⟨w.heap.size + 1, 1, none⟩ = some (.slice C' m d') := HX1.out.2.cell 1 rfl
  clear HC HX HW0 hb1
  go_wp2
  clear f0 f1
  go_loopw [5] (fun i wr => ∃ k : Nat, k ≤ m ∧ i = .int .i64 k ∧ Below w1.heap.size w1 wr) (fun i _ => m - (intOf i).toNat)
  case atStart => exact ⟨0, Nat.zero_le _, rfl, Below.refl _ _⟩
  case round =>
    obtain ⟨k, hk, rfl, hbw⟩ := hrel
    have hbu := bt hb2 hbw
    have f2 : wr.cell? ⟨w.heap.size, 1, none⟩ = some (.slice C m d) := (HX1.out.1.step hbw).cell 1 rfl
    have f3 : wr.cell? ⟨w.heap.size + 1, 1, none⟩ = some (.slice C' m d') := (HX1.out.2.step hbw).cell 1 rfl
    by_cases hlt : k < m
    · obtain ⟨b, off, rfl, hc, hd⟩ := (G.out.below hbu) k (by rw [HM.out]; exact hlt)
      obtain ⟨b', off', rfl, hc', hd'⟩ := (G'.out.below hbu) k (by rw [HM.out]; exact hlt)
      generalize ws.getD k (0, ByteArray.empty) = x at hc hd hc' hd'
      obtain ⟨x1, x2⟩ := x
      simp only at hc hd hc' hd'
      have hi : (k : Int) < (m : Int) := by omega
      have hq1 : (x2.toList == x2.toList) = true := by simp
      have hq2 : (x1 == x1) = true := by simp
      go_wp2
      go_quiet (fail)
      go_wp2
      go_roundw
      case rel => exact ⟨k + 1, by omega, by go_num, below_drewN hbw _⟩
      case measure => simp [intOf]; omega
    · go_wp2
      go_ret
      exact ⟨rfl, hbu⟩
end Go.Proofs.Ytcchhbkbnbphhaa

/- A []byte that came in, opened: its bytes as numbers below 256, in a block that is there. -/
namespace Go.Proofs.Ytcchhbkbnbphhaa
open Go.RowKit Go.ChangeShapes Go.WideShapes

theorem open_bytes {H : Type} {enc : TypeId × Value → H} {P : Program} {w : World} {spare : Nat → Bool} {held : Bool} {t e : TypeId} {fuel : Nat} {v : Value} {x : DataW H × List MemPlace} (ht : P.underlying t = some (.slice e)) (he : P.underlying e = some (.int .u8)) (hce : P.cellsOf e = 1)
    (h : DataW.trod enc P w 0 spare held fuel t [v] = some x) :
    ∃ A n c, ∃ zs : List Nat, v = .slice A n c ∧ zs.length = n ∧ n ≤ maxLen ∧ ByB w w.heap.size A zs := by
  rcases Deep.open_slice1 ht hce h with ⟨hcs, _⟩ | ⟨a, len, cap, m, k, V, D, Pl, hcs, _, hl, hm, hmm, _, hx⟩
  · injection hcs with hv _
    exact ⟨none, 0, 0, [], hv, rfl, by unfold maxLen; omega, fun i hi => by simp at hi⟩
  · injection hcs with hv _
    have hlm : len ≤ m := by rw [hmm]; split <;> omega
    obtain ⟨S, hS⟩ := Deep.choose_lt (n := len) (p := fun i (s : Nat) => w.cell? (a.add i) = some (.int .u8 (s : Int)) ∧ s < 256) (fun i hi => by
      obtain ⟨h1, h2⟩ := hx i (by omega)
      obtain ⟨s, hc, _, hs⟩ := DataW.trod_int he h2
      injection hc with hc _
      have hr : 0 ≤ s ∧ s < 256 := by
        have hs' : decide (IntKind.u8.min ≤ s) && decide (s ≤ IntKind.u8.max) := hs
        rw [Bool.and_eq_true, decide_eq_true_eq, decide_eq_true_eq] at hs'
        have e1 : IntKind.u8.min = 0 := by decide
        have e2 : IntKind.u8.max = 255 := by decide
        rw [e1, e2] at hs'
        omega
      exact ⟨s.toNat, by rw [h1, hc, Int.toNat_of_nonneg hr.1], by omega⟩)
    refine ⟨some a, len, cap, (List.range len).map S, hv, by simp, by omega, fun i hi => ?_⟩
    have hi' : i < len := by simpa using hi
    have h0 := (hS 0 (by omega)).1
    have hsp := World.cell?_spot h0
    obtain ⟨b, off, spot⟩ := a
    have hsp' : spot = none := by simpa [Addr.add] using hsp
    subst hsp'
    have hc := add_plain (hS i hi').1 rfl
    refine ⟨b, off, rfl, cell_lt hc, ?_, ?_⟩
    · rw [getD_range len S _ i hi']; exact hc
    · rw [getD_range len S _ i hi']; exact (hS i hi').2
set_option maxRecDepth 100000 in
theorem cellsU8 : Try.prog.cellsOf 5 = 1 := by kernel_rfl
end Go.Proofs.Ytcchhbkbnbphhaa
