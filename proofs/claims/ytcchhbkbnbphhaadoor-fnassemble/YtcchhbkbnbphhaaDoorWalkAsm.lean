/- The law FnAssemble, walked. Written by gen_walkasm.py. -/
import Derived.Test.YtcchhbkbnbphhaaDoorM5
import Derived.Test.YtcchhbkbnbphhaaDoorTxt4
import Derived.Test.YtcchhbkbnbphhaaDoorM4
import Derived.Test.YtcchhbkbnbphhaaDoorM9
import Derived.Test.YtcchhbkbnbphhaaDoorM3
namespace Go.Proofs.YtcchhbkbnbphhaaDoor
open Go.RowKit

set_option maxHeartbeats 16000000 in
set_option maxRecDepth 100000 in
theorem walkAsm (A : Option Addr) (n c : Nat) (zs : List Nat) (A' : Option Addr) (n' c' : Nat) (zs' : List Nat) (w : World) (hl : zs.length = n) (hn : n ≤ maxLen) (h : ByB w w.heap.size A zs) (hl' : zs'.length = n') (hn' : n' ≤ maxLen) (h' : ByB w w.heap.size A' zs') (ht : OpsT w) (hp : Pow w) :
    Calls Tryd.prog 4 #[.slice A n c, .slice A' n' c'] w fun e w' => e = .returned (.bool true) ∧ Below w.heap.size w w' := by
  have HN2 := Lib.hid hn'
  unfold maxLen at hn hn'
  by_cases hle : 1048576 < n
  · have i1 : (1048576 : Int) < (n : Int) := by omega
    clear hle
    go_enter Tryd.func4, Tryd.ntmps4
    go_wp2
    go_ret
    exact ⟨rfl, Below.refl _ _⟩
  have i1 : ¬ (1048576 : Int) < (n : Int) := by omega
  by_cases hle' : 1048576 < n'
  · have i2 : (1048576 : Int) < (n' : Int) := by omega
    clear hle'
    go_enter Tryd.func4, Tryd.ntmps4
    go_wp2
    go_ret
    exact ⟨rfl, Below.refl _ _⟩
  have i2 : ¬ (1048576 : Int) < (n' : Int) := by omega
  have HA0 : Hid (∀ W, Below w.heap.size w W → Calls Tryd.prog 15 #[.slice A' n' c', .int .i64 0, .int .i64 8] W fun e w' => e = .returned (.int .i64 (atOf zs' 0 8 : Nat)) ∧ Below W.heap.size W w') := Lib.hid (fun W hb => lawAtE 0 8 A' n' c' zs' W (by omega) (by omega) (by omega) (by omega) hl' (h'.step hb))
  have hk0 := atOf_lt zs' 0 8 (by omega)
  generalize atOf zs' 0 8 = K at HA0 hk0
  have e1 : IntKind.i64.wrap (1 + (K : Int)) = ((1 + K : Nat) : Int) := by rw [IntWalk.i64_in _ (by omega)]; simp
  obtain ⟨nk, hnk⟩ : ∃ nk, nk = 1 + K := ⟨_, rfl⟩
  rw [← hnk] at e1
  have HNk : Hid (nk ≤ 8) := Lib.hid (by omega)
  have HCo := Lib.hid h
  have HNl : Hid (zs.length = n ∧ n ≤ 1048576) := Lib.hid ⟨hl, by omega⟩
  have HTb := Lib.hid ht
  have HPw := Lib.hid hp
  have hb0 : Below w.heap.size w ((w.alloc (.cells #[] 9)).alloc (.cells #[] 3)) := bt (alloc_below _ _) (alloc_below _ _)
  have HL0 : Hid (((w.alloc (.cells #[] 9)).alloc (.cells #[] 3)).ownsRow w.heap.size 9 1 (.slice (some ⟨w.heap.size, 0, none⟩) 0 0) 0 (cellsS [])) := Lib.hid (rowv_empty (Nat.le_refl _) ((Box.new _ _ _).alloc _))
  have HD0 : Hid (((w.alloc (.cells #[] 9)).alloc (.cells #[] 3)).ownsRow w.heap.size 3 1 (.slice (some ⟨w.heap.size + 1, 0, none⟩) 0 0) 0 (cellsI [])) := Lib.hid (rowv_empty (Nat.le_succ _) (by simpa using Box.new (w.alloc (.cells #[] 9)) 3 #[]))
  clear hl hl' hn hn' h h' hle hle' HN2 ht hp hk0 hnk
  go_enter Tryd.func4, Tryd.ntmps4
  go_wp2_with fail
  go_loopw [5, 6, 7] (fun o5 o6 q wr => ∃ (i m cl cd : Nat) (Al Ad : Option Addr) (ss : List ByteArray) (ds : List Int), i ≤ nk ∧ o5 = .slice Al i cl ∧ o6 = .slice Ad m cd ∧ q = .int .i64 i ∧ Hid (AsmD ss ds i m) ∧ Hid (wr.ownsRow w.heap.size 9 1 (.slice Al i cl) i (cellsS ss)) ∧ Hid (wr.ownsRow w.heap.size 3 1 (.slice Ad m cd) m (cellsI ds)) ∧ Hid (Below w.heap.size w wr)) (fun _ _ q _ => nk - (intOf q).toNat)
  case atStart => exact ⟨0, 0, 0, 0, _, _, [], [], Nat.zero_le _, rfl, rfl, rfl, Lib.hid AsmD.nil, HL0, HD0, Lib.hid hb0⟩
  case round =>
    clear HL0 HD0 hb0
    obtain ⟨i, m, cl, cd, Al, Ad, ss, ds, hi, rfl, rfl, rfl, HM, HL, HD, HB⟩ := hrel
    go_wp2_with fail
    refine (HA0.out _ HB.out).mono ?_
    rintro e w1 ⟨rfl, k1⟩
    replace HL := Lib.hid (rowv_below HL.out k1)
    replace HD := Lib.hid (rowv_below HD.out k1)
    replace HB := Lib.hid (bt HB.out k1)
    clear k1
    by_cases hlt : i < nk
    · have hi1 : (i : Int) < (nk : Int) := by omega
      have hi8 : i < 8 := by have := HNk.out; omega
      have kV := alloc_below w1 (.cells #[.int .u8 (i : Int)] 5)
      have HBy : Hid ((w1.alloc (.cells #[.int .u8 (i : Int)] 5)).ownsRow w1.heap.size 5 1 (.slice (some ⟨w1.heap.size, 0, none⟩) 1 1) 1 [.int .u8 (i : Int)]) := Lib.hid (World.ownsRow_lit w1 #[.int .u8 (i : Int)] 1 (Nat.le_refl _) (by unfold maxLen; omega) rfl)
      have HSr := Lib.hid (fun (hq : 0 < n) => byB_src (HCo.out.step (bt HB.out kV)) (by rw [HNl.out.1]; exact hq))
      have hz1 : w.heap.size ≤ w1.heap.size := HB.out.size
      clear kV
      go_wp2_with (at_builtin; refine wpList_app_any rfl (.tmp 38) (.tmp 39) 22 5 rfl (.int .u8 0) 1 1 elemU8 Tryd.underlying22 w1.heap.size _ 1 [.int .u8 (i : Int)] rfl HBy.out A n c rfl (zs.map fun z => .int .u8 (z : Nat)) ?hl HSr.out ?h1 ?h63 ?hby ?hbase ?_)
      case hl => rw [List.length_map, HNl.out.1, Nat.mul_one]
      case h1 => intro u hu; obtain ⟨z, _, rfl⟩ := List.mem_map.1 hu; rfl
      case h63 => (have := HNl.out.2; unfold maxLen; omega)
      case hby => (have := HNl.out.2; omega)
      case hbase => simp
      intro A3 c3 w2 hown hcap hgr kb
      have k2 : Below w1.heap.size w1 w2 := (alloc_below w1 (.cells #[.int .u8 (i : Int)] 5)).trans kb
      have HBB : Hid (ByB w2 w2.heap.size A3 (i :: zs)) := Lib.hid (byB_own (n := 1 + n) (c := c3) (by rw [List.length_cons, HNl.out.1]; omega) (by simpa using hown) (fun z hz => by
        rcases List.mem_cons.1 hz with q | q
        · omega
        · exact byB_lt HCo.out z q))
      clear HBy HSr hown hcap hgr kb
      replace HL := Lib.hid (rowv_below HL.out k2)
      replace HD := Lib.hid (rowv_below HD.out k2)
      replace HB := Lib.hid (bt HB.out k2)
      clear k2
      have HIn := Lib.hid (instrDrawn A3 (1 + n) c3 (i :: zs) w2 (by have := HNl.out.2; unfold maxLen; omega) (by rw [List.length_cons, HNl.out.1]; omega) HBB.out)
      go_wp2_with fail
      refine (HIn.out).mono ?_
      rintro e w3 ⟨op, reg, arg, rfl, hok, k3⟩
      replace HL := Lib.hid (rowv_below HL.out k3)
      replace HD := Lib.hid (rowv_below HD.out k3)
      replace HB := Lib.hid (bt HB.out k3)
      clear k3
      have HOk := Lib.hid hok
      clear hok HIn HBB
      obtain ⟨V1, hW⟩ : ∃ V1, V1 = w3.alloc (.cells #[.int .i64 op, .int .i64 reg, .int .i64 arg] 24) := ⟨_, rfl⟩
      have ka : Below w3.heap.size w3 V1 := by rw [hW]; exact alloc_below _ _
      replace HL := Lib.hid (rowv_below HL.out ka)
      replace HD := Lib.hid (rowv_below HD.out ka)
      replace HB := Lib.hid (bt HB.out ka)
      have X8 : Hid (Box V1 w3.heap.size 24 #[.int .i64 op, .int .i64 reg, .int .i64 arg]) := Lib.hid (by rw [hW]; exact Box.new _ _ _)
      clear ka
      have HCt := Lib.hid (fun W (q : OpsT W) (q' : Pow W) => implInstrTextA op reg arg W q q')
      rw [txtF_t HOk.out] at HCt
      obtain ⟨ln, hln⟩ : ∃ ln : Nat, (encL op reg arg).length = ln := ⟨_, rfl⟩
      have HM2 := Lib.hid (HM.out.snoc HOk.out ln hln)
      have HCe := Lib.hid (fun W (q : OpsT W) => implEncodeA op reg arg W q)
      rw [enc_ok HOk.out, hln] at HCe
      have hln3 : ln ≤ 3 := by rw [← hln, encL_len]; have := lenT_range op; omega
      have HLn := Lib.hid hln
      clear hln
      generalize txtB op reg arg = tx at HCt HM2
      generalize encL op reg arg = el at HCe HM2 HLn
      have fX80 := X8.out.cell 0 rfl; have fX81 := X8.out.cell 1 rfl; have fX82 := X8.out.cell 2 rfl
      rw [hW] at fX80 fX81 fX82
      go_wp2_with fail
      rw [← hW]
      clear hW
      obtain ⟨D8, hD⟩ : ∃ D8, D8 = w3.heap.size := ⟨_, rfl⟩
      rw [← hD] at X8 ⊢
      clear hD
      clear fX80 fX81 fX82
      refine (HCt.out _ (HTb.out.below HB.out) (HPw.out.below HB.out)).mono ?_
      rintro e w4 ⟨rfl, k4⟩
      replace X8 := Lib.hid (X8.out.step k4)
      replace HL := Lib.hid (rowv_below HL.out k4)
      replace HD := Lib.hid (rowv_below HD.out k4)
      replace HB := Lib.hid (bt HB.out k4)
      clear k4
      have fX80 := X8.out.cell 0 rfl; have fX81 := X8.out.cell 1 rfl; have fX82 := X8.out.cell 2 rfl
      go_wp2_with fail
      clear fX80 fX81 fX82
      refine (HCe.out _ (HTb.out.below HB.out)).mono ?_
      rintro e w5 ⟨Ae, ce, rfl, Oe, k5⟩
      replace X8 := Lib.hid (X8.out.step k5)
      replace HL := Lib.hid (rowv_below HL.out k5)
      replace HD := Lib.hid (rowv_below HD.out k5)
      replace HB := Lib.hid (bt HB.out k5)
      clear k5
      have OE := Lib.hid (own_row HLn.out Oe.out.1.1)
      clear HCt HCe Oe
      have kV := alloc_below w5 (.cells #[.string tx] 9)
      have XT := Lib.hid (Box.new w5 9 #[.string tx])
      replace HL := Lib.hid (rowv_below HL.out kV)
      replace HD := Lib.hid (rowv_below HD.out kV)
      replace HB := Lib.hid (bt HB.out kV)
      replace OE := Lib.hid ((OE.out.btw (Btw.of_below kV 0 0) (.inr (Nat.zero_le _))))
      have hi9 : i + 1 ≤ maxLen := by unfold maxLen; omega
      clear X8 kV
      go_wp2_with (at_builtin; refine wpList_app_one rfl (.tmp 58) (.tmp 60) 40 9 rfl (.string ByteArray.empty) 1 16 elemStr Tryd.underlying40 w.heap.size (.slice Al i cl) i (cellsS ss) rfl HL.out w5.heap.size 1 rfl [.string tx] rfl ?hnews ?h1 hi9 ?hby ?hbase ?_)
      case hnews => intro j u hj; match j, hj with
                    | 0, hj => simp at hj; subst hj; exact XT.out.cell 0 rfl
      case h1 => intro u hu; simp at hu; subst hu; rfl
      case hby => omega
      case hbase => exact HB.out.size
      intro A6 c6 w6 hown6 hcap6 hgr6 kb6
      have HL6 : Hid (w6.ownsRow w.heap.size 9 1 (.slice A6 (i + 1) c6) (i + 1) (cellsS (ss ++ [tx]))) := Lib.hid (by
        rw [show cellsS (ss ++ [tx]) = cellsS ss ++ [.string tx] by simp [cellsS]]
        exact hown6)
      have HD6 := Lib.hid (rowv_grown HD.out HL.out (by decide) hgr6)
      have OE6 := Lib.hid (ownI_grow OE.out HL.out (by decide) hgr6)
      have HB6 := Lib.hid (HB.out.trans kb6)
      have HSe := Lib.hid (fun (hq : 0 < ln) => OE6.out.reads.src (by rw [HLn.out]; exact hq))
      clear HL HD OE HB XT hown6 hcap6 hgr6 kb6
      go_wp2_with (at_builtin; refine wpList_app_any rfl (.tmp 62) (.tmp 63) 26 3 rfl (.int .i64 0) 1 8 elemInt Tryd.underlying26 w.heap.size (.slice Ad m cd) m (cellsI ds) rfl HD6.out Ae ln ce rfl (cellsI el) ?hl HSe.out ?h1 ?h63 ?hby ?hbase ?_)
      case hl => rw [cellsI_len, HLn.out, Nat.mul_one]
      case h1 => intro u hu; unfold cellsI at hu; obtain ⟨z, _, rfl⟩ := List.mem_map.1 hu; rfl
      case h63 => (have := HM.out.few; unfold maxLen; omega)
      case hby => (have := HM.out.few; omega)
      case hbase => exact HB6.out.size
      intro A7 c7 w7 hown7 hcap7 hgr7 kb7
      have HD7 : Hid (w7.ownsRow w.heap.size 3 1 (.slice A7 (m + ln) c7) (m + ln) (cellsI (ds ++ el))) := Lib.hid (by
        rw [show cellsI (ds ++ el) = cellsI ds ++ cellsI el by simp [cellsI]]
        exact hown7)
      have HL7 := Lib.hid (rowv_grown HL6.out HD6.out (by decide) hgr7)
      have HB7 := Lib.hid (HB6.out.trans kb7)
      clear HL6 HD6 OE6 HB6 HSe hown7 hcap7 hgr7 kb7
      go_wp2
      go_roundw
      case rel => exact ⟨i + 1, m + ln, c6, c7, A6, A7, ss ++ [tx], ds ++ el, by omega, rfl, rfl, by go_num, HM2, HL7, HD7, HB7⟩
      case measure => simp [intOf]; omega
    · have hi1 : ¬ (i : Int) < (nk : Int) := by omega
      have hnk8 := HNk.out
      have HML := HM
      obtain ⟨hlen, hdl, hfew, -, hsz, -, hby⟩ := HM.out
      have hm24 : m ≤ 24 := by omega
      have hdl256 : ds.length ≤ 256 := by omega
      have S5 := Lib.hid (strL_own hlen HL.out)
      have S6 := Lib.hid (intL_own hdl HD.out)
      have HDl := Lib.hid (And.intro hdl (And.intro hm24 hby))
      have HAs := Lib.hid (fun W (q : StrL W Al ss) (q' : OpsT W) => asmI Al i cl ss W hlen (by omega) (fun x hx => by have := hsz x hx; omega) q q')
      rw [HM.out.asm (by omega)] at HAs
      have HNM := Lib.hid (fun W (A : Option Addr) (c : Nat) (q : IntL W A ds) => implNewMemC A m c ds W hdl (by unfold maxLen; omega) q)
      rw [newF_ok hdl256 hby] at HNM
      unfold GivesMemCodeC at HNM
      simp only [zR_len, zI_len, progZ_len, zG_len] at HNM
      have HMk := Lib.hid (progZ_ok hdl256 hby)
      have HPf := Lib.hid (fun W (A : Option Addr) (q : IntL W A (progZ ds ds.length)) => progZ_front hdl256 q)
      have HPl := Lib.hid (progZ_len ds ds.length)
      clear HL HD HM HML hlen hdl hfew hsz hby hdl256 HA0 HCo HPw
      go_wp2_with fail
      refine (HAs.out _ S5.out (HTb.out.below HB.out)).mono ?_
      rintro e w2 ⟨Aq, nq, cq, rfl, hq, Oq, k2⟩
      replace S5 := Lib.hid (S5.out.below k2)
      replace S6 := Lib.hid (S6.out.below k2)
      replace HB := Lib.hid (bt HB.out k2)
      clear k2
      obtain rfl : nq = m := by rw [← hq]; exact HDl.out.1
      have S7 := Lib.hid Oq.out.reads
      clear HAs Oq hq S5
      go_wp2_with fail
      refine (HNM.out _ Aq cq S7.out).mono ?_
      rintro e w3 ⟨A0, A1, A2, A3, c0, c1, c2, c3, rfl, OM, QC, k3⟩
      replace S6 := Lib.hid (S6.out.below k3)
      replace S7 := Lib.hid (S7.out.below k3)
      replace HB := Lib.hid (bt HB.out k3)
      clear k3
      have R0 := Lib.hid ((own_row zR_len OM.out.1.1).reads)
      have R1 := Lib.hid ((own_row zI_len OM.out.1.2.1).reads)
      have R2 := Lib.hid ((own_row HPl.out OM.out.1.2.2.1).reads)
      clear HNM OM
      obtain ⟨V1, hW⟩ : ∃ V1, V1 = w3.alloc (.cells #[.slice A0 256 c0, .slice A1 32 c1, .slice A2 256 c2, .slice A3 16 c3, .int .i64 0] 46) := ⟨_, rfl⟩
      have ka : Below w3.heap.size w3 V1 := by rw [hW]; exact alloc_below _ _
      replace S6 := Lib.hid (S6.out.below ka)
      replace S7 := Lib.hid (S7.out.below ka)
      replace R0 := Lib.hid (R0.out.below ka)
      replace R1 := Lib.hid (R1.out.below ka)
      replace R2 := Lib.hid (R2.out.below ka)
      replace HB := Lib.hid (bt HB.out ka)
      have X15 : Hid (Box V1 w3.heap.size 46 #[.slice A0 256 c0, .slice A1 32 c1, .slice A2 256 c2, .slice A3 16 c3, .int .i64 0]) := Lib.hid (by rw [hW]; exact Box.new _ _ _)
      clear ka
      have fX150 := X15.out.cell 0 rfl; have fX151 := X15.out.cell 1 rfl; have fX152 := X15.out.cell 2 rfl; have fX153 := X15.out.cell 3 rfl; have fX154 := X15.out.cell 4 rfl
      rw [hW] at fX150 fX151 fX152 fX153 fX154
      go_wp2_with fail
      rw [← hW]
      clear hW
      obtain ⟨D15, hD⟩ : ∃ D15, D15 = w3.heap.size := ⟨_, rfl⟩
      rw [← hD] at X15 ⊢
      clear hD
      clear fX150 fX151 fX152 fX153 fX154
      refine (lawSameIntsD Aq Ad nq cq cd ds _ HDl.out.1 (by have := HDl.out.2.1; omega) S7.out S6.out).mono ?_
      rintro e w4 ⟨rfl, k4⟩
      replace X15 := Lib.hid (X15.out.step k4)
      replace S6 := Lib.hid (S6.out.below k4)
      replace S7 := Lib.hid (S7.out.below k4)
      replace R0 := Lib.hid (R0.out.below k4)
      replace R1 := Lib.hid (R1.out.below k4)
      replace R2 := Lib.hid (R2.out.below k4)
      replace HB := Lib.hid (bt HB.out k4)
      clear k4
      have kG := alloc_below w4 (.cells #[.string ⟨#[103, 111]⟩] 9)
      have XG := Lib.hid (Box.new w4 9 #[.string ⟨#[103, 111]⟩])
      have HG : Hid (StrL (w4.alloc (.cells #[.string ⟨#[103, 111]⟩] 9)) (some ⟨w4.heap.size, 0, none⟩) [⟨#[103, 111]⟩]) := Lib.hid (fun i hi => by
        obtain rfl : i = 0 := by simp at hi; omega
        exact ⟨_, 0, rfl, XG.out.cell 0 rfl⟩)
      have HAg := Lib.hid (asmI (some ⟨w4.heap.size, 0, none⟩) 1 1 [⟨#[103, 111]⟩] _ rfl (by omega) (by intro x hx; rw [List.mem_singleton.1 hx]; decide) HG.out (HTb.out.below (bt HB.out kG)))
      rw [asm_go] at HAg
      have Y15 := X15
      have fX150 := X15.out.cell 0 rfl; have fX151 := X15.out.cell 1 rfl; have fX152 := X15.out.cell 2 rfl; have fX153 := X15.out.cell 3 rfl; have fX154 := X15.out.cell 4 rfl
      replace X15 := Lib.hid (X15.out.step kG)
      replace S6 := Lib.hid (S6.out.below kG)
      replace S7 := Lib.hid (S7.out.below kG)
      replace R0 := Lib.hid (R0.out.below kG)
      replace R1 := Lib.hid (R1.out.below kG)
      replace R2 := Lib.hid (R2.out.below kG)
      replace HB := Lib.hid (bt HB.out kG)
      clear kG XG HG
      go_wp2_with fail
      refine HAg.out.mono ?_
      rintro e w5 ⟨Ag, ng, cg, rfl, -, -, k5⟩
      clear fX150 fX151 fX152 fX153 fX154 Y15
      replace X15 := Lib.hid (X15.out.step k5)
      replace S6 := Lib.hid (S6.out.below k5)
      replace S7 := Lib.hid (S7.out.below k5)
      replace R0 := Lib.hid (R0.out.below k5)
      replace R1 := Lib.hid (R1.out.below k5)
      replace R2 := Lib.hid (R2.out.below k5)
      replace HB := Lib.hid (bt HB.out k5)
      clear k5 HAg S7
      have hc2 : (nq : Int) ≤ (c2 : Int) := by have := QC.out; have := HDl.out.2.1; omega
      have hq0 : (0 : Int) ≤ (nq : Int) := by omega
      have fX150 := X15.out.cell 0 rfl; have fX151 := X15.out.cell 1 rfl; have fX152 := X15.out.cell 2 rfl; have fX153 := X15.out.cell 3 rfl; have fX154 := X15.out.cell 4 rfl
      go_wp2_with fail
      clear fX150 fX151 fX152 fX153 fX154
      refine (lawSameIntsD A2 Ad nq c2 cd ds _ HDl.out.1 (by have := HDl.out.2.1; omega) (HPf.out _ _ R2.out) S6.out).mono ?_
      rintro e w6 ⟨rfl, k6⟩
      replace X15 := Lib.hid (X15.out.step k6)
      replace S6 := Lib.hid (S6.out.below k6)
      replace R0 := Lib.hid (R0.out.below k6)
      replace R1 := Lib.hid (R1.out.below k6)
      replace R2 := Lib.hid (R2.out.below k6)
      replace HB := Lib.hid (bt HB.out k6)
      clear k6
      have HMo := Lib.hid (implMemOK A0 A1 A2 A3 256 32 256 16 c0 c1 c2 c3 zR zI (progZ ds ds.length) zG 0 w6 zR_len zI_len HPl.out zG_len (by unfold maxLen; omega) (by unfold maxLen; omega) (by unfold maxLen; omega) (by unfold maxLen; omega) R0.out R1.out R2.out)
      rw [HMk.out] at HMo
      have fX150 := X15.out.cell 0 rfl; have fX151 := X15.out.cell 1 rfl; have fX152 := X15.out.cell 2 rfl; have fX153 := X15.out.cell 3 rfl; have fX154 := X15.out.cell 4 rfl
      go_wp2_with fail
      clear fX150 fX151 fX152 fX153 fX154
      refine (HMo.out).mono ?_
      rintro e w7 ⟨rfl, k7⟩
      replace X15 := Lib.hid (X15.out.step k7)
      replace S6 := Lib.hid (S6.out.below k7)
      replace R0 := Lib.hid (R0.out.below k7)
      replace R1 := Lib.hid (R1.out.below k7)
      replace R2 := Lib.hid (R2.out.below k7)
      replace HB := Lib.hid (bt HB.out k7)
      clear k7
      go_wp2
      go_ret
      exact ⟨rfl, HB.out⟩
end Go.Proofs.YtcchhbkbnbphhaaDoor
