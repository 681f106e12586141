/- Contracts of the roots' texts: Root.text, l02Text, both RootText. -/
import Derived.Test.YtoogaaoknpfkoaaDigWalk
import Derived.Test.YtoogaaoknpfkoaaRootSpec
namespace Go.Proofs.Ytoogaaoknpfkoaa
open Go.RowKit

def tabTx (zs : List Int) : List UInt8 := zs.flatMap fun z => digs 2 z.toNat
/-- The text of a root. -/
def rootTx (g : Int) (zs : List Int) : ByteArray := bs (digs 6 g.toNat ++ tabTx zs ++ digs 6 g.toNat)
theorem tabTx_step (zs : List Int) (k : Nat) (h : k < zs.length) : tabTx (zs.take (k + 1)) = tabTx (zs.take k) ++ digs 2 (zs.getD k 0).toNat := by
  unfold tabTx
  rw [List.take_succ_eq_append_getElem h, List.flatMap_append, List.getD_eq_getElem?_getD, List.getElem?_eq_getElem h]
  simp
theorem tabTx_len (zs : List Int) : (tabTx zs).length = 2 * zs.length := by
  induction zs with
  | nil => rfl
  | cons a r ih => unfold tabTx at ih ⊢; rw [List.flatMap_cons, List.length_append, ih, digs_len]; simp; omega

set_option maxRecDepth 100000 in
set_option maxHeartbeats 1000000 in
theorem rootText (g : Int) (A : Option Addr) (n c : Nat) (zs : List Int) (w : World) (hl : zs.length = n) (hn : n ≤ 17) (hg : 0 ≤ g ∧ g ≤ 999999) (hz : ∀ z ∈ zs, 0 ≤ z ∧ z ≤ 99) (h : IntL w A zs) :
    Calls Try.prog 102 #[.agg #[.int .i64 g, .slice A n c]] w fun e w' => e = .returned (.string (rootTx g zs)) ∧ Below w.heap.size w w' := by
  obtain ⟨gn, rfl⟩ : ∃ gn : Nat, g = gn := ⟨g.toNat, by omega⟩
  have hb0 := alloc_below w (.cells #[.int .i64 gn, .slice A n c] 57)
  have X := Box.new w 57 #[.int .i64 (gn : Int), .slice A n c]
  have HD6 := Lib.hid (fun W => digitsOf 6 gn W (by omega) (by omega))
  rw [show ((6 : Nat) : Int) = 6 from rfl] at HD6
  have HT : Hid (rootTx gn zs = bs (digs 6 gn ++ tabTx zs ++ digs 6 gn)) := Lib.hid (by unfold rootTx; rw [Int.toNat_natCast])
  have HLd := Lib.hid (digs_len 6 gn)
  generalize digs 6 gn = gd at HD6 HT HLd
  have HL := Lib.hid hl
  have H := Lib.hid h
  have HZ := Lib.hid hz
  clear hl h hz hg
  go_enter Try.func102, Try.ntmps102
  go_wp2_with fail
  refine (HD6.out _).mono ?_
  rintro e w1 ⟨rfl, hb1⟩
  have X1 := X.step hb1
  have f1 := X1.cell 1 rfl
  have hb := bt hb0 hb1
  clear hb0 hb1 X X1 HD6
  go_wp2
  go_loopw [14, 4] (fun i t wr => ∃ k : Nat, k ≤ n ∧ i = .int .i64 k ∧ t = .string (bs (gd ++ tabTx (zs.take k))) ∧ Below w.heap.size w wr) (fun i _ _ => n - (intOf i).toNat)
  case atStart => exact ⟨0, Nat.zero_le _, rfl, by simp [tabTx], hb⟩
  case round =>
    obtain ⟨k, hk, rfl, rfl, hbw⟩ := hrel
    have hsz : (bs (gd ++ tabTx (zs.take k))).size ≤ 40 := by
      rw [bs_size, List.length_append, HLd.out, tabTx_len, List.length_take]; omega
    by_cases hlt : k < n
    · obtain ⟨b, off, rfl, hc⟩ := (H.out.below hbw) k (by rw [HL.out]; exact hlt)
      have hzk : 0 ≤ zs.getD k 0 ∧ zs.getD k 0 ≤ 99 := HZ.out _ (by rw [List.getD_eq_getElem?_getD, List.getElem?_eq_getElem (by rw [HL.out]; exact hlt)]; exact List.getElem_mem _)
      have HS := Lib.hid (tabTx_step zs k (by rw [HL.out]; exact hlt))
      generalize zs.getD k 0 = z at hc HS hzk
      obtain ⟨zn, rfl⟩ : ∃ zn : Nat, z = zn := ⟨z.toNat, by omega⟩
      rw [Int.toNat_natCast] at HS
      have HD2 := Lib.hid (fun W => digitsOf 2 zn W (by omega) (by omega))
      rw [show ((2 : Nat) : Int) = 2 from rfl] at HD2
      have hs2 : (bs (digs 2 zn)).size = 2 := by rw [bs_size, digs_len]
      have HN : Hid (bs (gd ++ tabTx (zs.take k)) ++ bs (digs 2 zn) = bs (gd ++ tabTx (zs.take (k + 1)))) := Lib.hid (by rw [bs_app, HS.out, List.append_assoc])
      have hnl : ¬ 9223372036854775807 < (bs (gd ++ tabTx (zs.take k))).size + (bs (digs 2 zn)).size := by omega
      have hi : (k : Int) < (n : Int) := by omega
      clear hs2 hsz
      generalize bs (digs 2 zn) = d2 at HD2 HN hnl
      generalize bs (gd ++ tabTx (zs.take k)) = t at HN hnl
      go_wp2_with fail
      refine (HD2.out _).mono ?_
      rintro e w2 ⟨rfl, hb2⟩
      go_wp2
      go_roundw
      case rel => exact ⟨k + 1, by omega, by go_num, by rw [HN.out], bt hbw hb2⟩
      case measure => simp [intOf]; omega
    · have hs6 : (bs gd).size = 6 := by rw [bs_size, HLd.out]
      have HN : Hid (bs (gd ++ tabTx (zs.take k)) ++ bs gd = rootTx gn zs) := Lib.hid (by rw [bs_app, HT.out, List.take_of_length_le (by rw [HL.out]; omega)])
      have hnl : ¬ 9223372036854775807 < (bs (gd ++ tabTx (zs.take k))).size + (bs gd).size := by omega
      clear hs6 hsz
      generalize bs (gd ++ tabTx (zs.take k)) = t at HN hnl
      generalize bs gd = d6 at HN hnl
      go_wp2
      go_ret
      exact ⟨ret_str HN.out, hbw⟩
set_option maxRecDepth 100000 in
set_option maxHeartbeats 1000000 in
theorem l02Text (g : Int) (A : Option Addr) (n c : Nat) (zs : List Int) (w : World) (hl : zs.length = n) (hn : n ≤ 17) (hg : 0 ≤ g ∧ g ≤ 999999) (hz : ∀ z ∈ zs, 0 ≤ z ∧ z ≤ 99) (h : IntL w A zs) :
    Calls Try.prog 101 #[.agg #[.int .i64 g, .slice A n c]] w fun e w' => e = .returned (.string (rootTx g zs)) ∧ Below w.heap.size w w' := by
  obtain ⟨gn, rfl⟩ : ∃ gn : Nat, g = gn := ⟨g.toNat, by omega⟩
  have hb0 := alloc_below w (.cells #[.int .i64 gn, .slice A n c] 57)
  have X := Box.new w 57 #[.int .i64 (gn : Int), .slice A n c]
  have HD6 := Lib.hid (fun W => l02Digits 5 gn W (by omega) (by omega))
  rw [show ((5 + 1 : Nat) : Int) = 6 from rfl, show 5 + 1 = 6 from rfl] at HD6
  have HT : Hid (rootTx gn zs = bs (digs 6 gn ++ tabTx zs ++ digs 6 gn)) := Lib.hid (by unfold rootTx; rw [Int.toNat_natCast])
  have HLd := Lib.hid (digs_len 6 gn)
  generalize digs 6 gn = gd at HD6 HT HLd
  have HL := Lib.hid hl
  have H := Lib.hid h
  have HZ := Lib.hid hz
  clear hl h hz hg
  go_enter Try.func101, Try.ntmps101
  go_wp2_with fail
  refine (HD6.out _).mono ?_
  rintro e w1 ⟨rfl, hb1⟩
  have X1 := X.step hb1
  have HX1 := Lib.hid X1
  have hb := bt hb0 hb1
  clear hb0 hb1 X X1
  go_wp2
  go_loopw [4, 3] (fun i t wr => ∃ k : Nat, k ≤ n ∧ i = .int .i64 k ∧ t = .string (bs (gd ++ tabTx (zs.take k))) ∧ Below w.heap.size w wr ∧ Hid (Box wr w.heap.size 57 #[.int .i64 (gn : Int), .slice A n c])) (fun i _ _ => n - (intOf i).toNat)
  case atStart => exact ⟨0, Nat.zero_le _, rfl, by simp [tabTx], hb, HX1⟩
  case round =>
    obtain ⟨k, hk, rfl, rfl, hbw, HX⟩ := hrel
    have f0 := HX.out.cell 0 rfl
    have f1 := HX.out.cell 1 rfl
    have hsz : (bs (gd ++ tabTx (zs.take k))).size ≤ 40 := by
      rw [bs_size, List.length_append, HLd.out, tabTx_len, List.length_take]; omega
    by_cases hlt : k < n
    · obtain ⟨b, off, rfl, hc⟩ := (H.out.below hbw) k (by rw [HL.out]; exact hlt)
      have hzk : 0 ≤ zs.getD k 0 ∧ zs.getD k 0 ≤ 99 := HZ.out _ (by rw [List.getD_eq_getElem?_getD, List.getElem?_eq_getElem (by rw [HL.out]; exact hlt)]; exact List.getElem_mem _)
      have HS := Lib.hid (tabTx_step zs k (by rw [HL.out]; exact hlt))
      generalize zs.getD k 0 = z at hc HS hzk
      obtain ⟨zn, rfl⟩ : ∃ zn : Nat, z = zn := ⟨z.toNat, by omega⟩
      rw [Int.toNat_natCast] at HS
      have HD2 := Lib.hid (fun W => l02Digits 1 zn W (by omega) (by omega))
      rw [show ((1 + 1 : Nat) : Int) = 2 from rfl, show 1 + 1 = 2 from rfl] at HD2
      have hs2 : (bs (digs 2 zn)).size = 2 := by rw [bs_size, digs_len]
      have HN : Hid (bs (gd ++ tabTx (zs.take k)) ++ bs (digs 2 zn) = bs (gd ++ tabTx (zs.take (k + 1)))) := Lib.hid (by rw [bs_app, HS.out, List.append_assoc])
      have hnl : ¬ 9223372036854775807 < (bs (gd ++ tabTx (zs.take k))).size + (bs (digs 2 zn)).size := by omega
      have hi : (k : Int) < (n : Int) := by omega
      clear hs2 hsz
      generalize bs (digs 2 zn) = d2 at HD2 HN hnl
      generalize bs (gd ++ tabTx (zs.take k)) = t at HN hnl
      go_wp2_with fail
      refine (HD2.out _).mono ?_
      rintro e w2 ⟨rfl, hb2⟩
      go_wp2
      go_roundw
      case rel => exact ⟨k + 1, by omega, by go_num, by rw [HN.out], bt hbw hb2, Lib.hid (HX.out.step hb2)⟩
      case measure => simp [intOf]; omega
    · have hs6 : (bs gd).size = 6 := by rw [bs_size, HLd.out]
      have HN : Hid (bs (gd ++ tabTx (zs.take k)) ++ bs gd = rootTx gn zs) := Lib.hid (by rw [bs_app, HT.out, List.take_of_length_le (by rw [HL.out]; omega)])
      have hnl : ¬ 9223372036854775807 < (bs (gd ++ tabTx (zs.take k))).size + (bs gd).size := by omega
      clear hs6 hsz
      generalize bs (gd ++ tabTx (zs.take k)) = t at HN hnl
      generalize bs gd = d6 at HN hnl HD6
      go_wp2_with fail
      refine (HD6.out _).mono ?_
      rintro e w2 ⟨rfl, hb2⟩
      go_wp2
      go_ret
      exact ⟨ret_str HN.out, bt hbw hb2⟩

/-- What RootText answers. -/
def rtOf (g : Int) (zs : List Int) : ByteArray × Int := if rootB g zs = true then (rootTx g zs, 0) else (ByteArray.empty, 1)
theorem rootB_facts {g : Int} {zs : List Int} (h : rootB g zs = true) : (0 ≤ g ∧ g ≤ 999999) ∧ zs.length = 17 ∧ ∀ z ∈ zs, 0 ≤ z ∧ z ≤ 99 := by
  unfold rootB at h
  simp only [Bool.and_eq_true, decide_eq_true_eq, List.all_eq_true] at h
  obtain ⟨⟨⟨h1, h2⟩, h3⟩, _⟩ := h
  refine ⟨by omega, h2, fun z hz => ?_⟩
  have := h3 z hz
  unfold pageB at this
  simp only [decide_eq_true_eq] at this
  omega

set_option maxRecDepth 100000 in
set_option maxHeartbeats 1000000 in
theorem implRootText (g : Int) (A : Option Addr) (n c : Nat) (zs : List Int) (w : World) (hl : zs.length = n) (hn : n ≤ maxLen) (h : IntL w A zs) :
    Calls Try.prog 48 #[.agg #[.int .i64 g, .slice A n c]] w fun e w' => e = .returned (.tuple #[.string (rtOf g zs).1, .int .i64 (rtOf g zs).2]) ∧ Below w.heap.size w w' := by
  have hb0 := alloc_below w (.cells #[.int .i64 g, .slice A n c] 57)
  have HC := Lib.hid (rootValid g A n c zs _ hl hn (h.below hb0))
  have X := Box.new w 57 #[.int .i64 g, .slice A n c]
  by_cases hv : rootB g zs = true
  · have hF := rootB_facts hv
    have HT := Lib.hid (fun W (hb : Below w.heap.size w W) => rootText g A n c zs W hl (by rw [← hl, hF.2.1]; omega) hF.1 hF.2.2 (h.below hb))
    have HV : Hid (rtOf g zs = (rootTx g zs, 0)) := Lib.hid (by unfold rtOf; rw [if_pos hv])
    rw [hv] at HC
    generalize rootTx g zs = r at HT HV
    clear hl hn h hv hF
    go_enter Try.func48, Try.ntmps48
    go_wp2_with fail
    refine HC.out.mono ?_
    rintro e w1 ⟨rfl, hb1⟩
    have X1 := X.step hb1
    have f0 := X1.cell 0 rfl
    have f1 := X1.cell 1 rfl
    have hb := bt hb0 hb1
    clear hb0 hb1 X X1
    go_wp2_with fail
    refine (HT.out _ hb).mono ?_
    rintro e w2 ⟨rfl, hb2⟩
    go_wp2
    go_ret2
    exact ⟨ret_str_int (by rw [HV.out]) (by rw [HV.out]), bt hb hb2⟩
  · have hv' : rootB g zs = false := by simpa using hv
    have HV : Hid (rtOf g zs = (ByteArray.empty, 1)) := Lib.hid (by unfold rtOf; rw [if_neg hv])
    rw [hv'] at HC
    clear hl hn h hv hv'
    go_enter Try.func48, Try.ntmps48
    go_wp2_with fail
    refine HC.out.mono ?_
    rintro e w1 ⟨rfl, hb1⟩
    go_wp2
    go_ret2
    exact ⟨ret_str_int (by rw [HV.out]; rfl) (by rw [HV.out]), bt hb0 hb1⟩

set_option maxRecDepth 100000 in
set_option maxHeartbeats 1000000 in
theorem specRootText (g : Int) (A : Option Addr) (n c : Nat) (zs : List Int) (w : World) (hl : zs.length = n) (hn : n ≤ maxLen) (hcap : n ≤ c) (h : IntL w A zs) :
    Calls Try.prog 47 #[.agg #[.int .i64 g, .slice A n c]] w fun e w' => e = .returned (.tuple #[.string (rtOf g zs).1, .int .i64 (rtOf g zs).2]) ∧ Below w.heap.size w w' := by
  have hb0 := alloc_below w (.cells #[.int .i64 g, .slice A n c] 57)
  have HC := Lib.hid (specRootOK g A n c zs _ hl hn hcap (h.below hb0))
  have X := Box.new w 57 #[.int .i64 g, .slice A n c]
  by_cases hv : rootB g zs = true
  · have hF := rootB_facts hv
    have HT := Lib.hid (fun W (hb : Below w.heap.size w W) => l02Text g A n c zs W hl (by rw [← hl, hF.2.1]; omega) hF.1 hF.2.2 (h.below hb))
    have HV : Hid (rtOf g zs = (rootTx g zs, 0)) := Lib.hid (by unfold rtOf; rw [if_pos hv])
    rw [hv] at HC
    generalize rootTx g zs = r at HT HV
    clear hl hn hcap h hv hF
    go_enter Try.func47, Try.ntmps47
    go_wp2_with fail
    refine HC.out.mono ?_
    rintro e w1 ⟨rfl, hb1⟩
    have X1 := X.step hb1
    have f0 := X1.cell 0 rfl
    have f1 := X1.cell 1 rfl
    have hb := bt hb0 hb1
    clear hb0 hb1 X X1
    go_wp2_with fail
    refine (HT.out _ hb).mono ?_
    rintro e w2 ⟨rfl, hb2⟩
    go_wp2
    go_ret2
    exact ⟨ret_str_int (by rw [HV.out]) (by rw [HV.out]), bt hb hb2⟩
  · have hv' : rootB g zs = false := by simpa using hv
    have HV : Hid (rtOf g zs = (ByteArray.empty, 1)) := Lib.hid (by unfold rtOf; rw [if_neg hv])
    rw [hv'] at HC
    clear hl hn hcap h hv hv'
    go_enter Try.func47, Try.ntmps47
    go_wp2_with fail
    refine HC.out.mono ?_
    rintro e w1 ⟨rfl, hb1⟩
    go_wp2
    go_ret2
    exact ⟨ret_str_int (by rw [HV.out]; rfl) (by rw [HV.out]), bt hb0 hb1⟩
end Go.Proofs.Ytoogaaoknpfkoaa
