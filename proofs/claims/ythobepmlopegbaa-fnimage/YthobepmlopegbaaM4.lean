/- Texts of this claim, one behind the other: FlashOfTop, Pages5, Pages6, ImageMath, At2, FlashSpec2, FlashOps, CycleOf, BusRead, FlashWrite, FlashWrite2, FlashWrite3, BusWrite, Draw. -/
import Derived.Laws.MakeOwn
import Derived.IntWalk
import Derived.Deep.RegionHeld3
import Derived.StillTailTactics
import Derived.Test.YthobepmlopegbaaM3
/- The walks of l04Flash and the model's FlashOf. -/
namespace Go.Proofs.Ythobepmlopegbaa
open Go.RowKit

set_option maxRecDepth 100000 in
set_option maxHeartbeats 8000000 in
theorem l04Flash (A : Option Addr) (c : Nat) (ss : List ByteArray) (w : World) (hl : ss.length = 17) (h : StrL w A ss) :
    Calls Try.prog 60 #[.slice A 17 c] w (GivesL04 ss w) := by
  obtain ⟨B, off, rfl, _⟩ := h 0 (by omega)
  have HA : Hid (∀ W, Below w.heap.size w W → ∀ k, k < 17 → W.cell? ⟨B, off + k, none⟩ = some (.string (ss.getD k ByteArray.empty))) := Lib.hid (by
    intro W hbW k hk
    obtain ⟨B', off', e, hc'⟩ := (h.below hbW) k (by omega)
    injection e with e; injection e with e1 e2
    rw [e1, e2]; exact hc')
  have HL := Lib.hid hl
  have HF : Hid (flashL ss = pairO (cellsP (ss.take 16)) (guardP (ss.getD 16 ByteArray.empty))) := Lib.hid rfl
  have HG4 : Hid (∀ e w', GivesL04 ss w e w' = (((flashL ss = none ∧ e = .returned (.tuple #[.agg #[.slice none 0 0, .slice none 0 0, .int .i64 0], .bool false])) ∨ (∃ z g A c C d, flashL ss = some (z, g) ∧ e = .returned (.tuple #[.agg #[.slice A 256 c, .slice C 16 d, .int .i64 0], .bool true]) ∧ Hid (OwnI w' w.heap.size w'.heap.size A z) ∧ Hid (OwnB w' w.heap.size w'.heap.size C g) ∧ z.length = 256 ∧ g.length = 16)) ∧ Below w.heap.size w w')) := Lib.hid (fun _ _ => rfl)
  have HN := Lib.hid (FL.new w)
  obtain ⟨w1, hw1⟩ : ∃ w1, w1 = ((((w.alloc (.cells #[.slice none 0 0, .slice none 0 0, .int .i64 0] 26)).alloc (.cells #[] 3)).alloc (.cells #[] 4)).alloc (.cells #[.slice (some ⟨w.heap.size + 1, 0, none⟩) 0 0, .slice (some ⟨w.heap.size + 1 + 1, 0, none⟩) 0 0, .int .i64 0] 26)) := ⟨_, rfl⟩
  rw [← hw1] at HN
  have HW1 := Lib.hid hw1
  clear hl h hw1
  go_enter Try.func60, Try.ntmps60
  go_wp2
  rw [← HW1.out]
  clear HW1
  go_loopw [5] (fun i wr => ∃ (k : Nat) (A' : Option Addr) (c' : Nat) (acc : List Int), k ≤ 16 ∧ i = .int .i64 k ∧ Hid (FL w wr A' (16 * k) c' acc (some ⟨w.heap.size + 1 + 1, 0, none⟩) 0 0 []) ∧ Hid (cellsP (ss.take 16) = (cellsP ((ss.take 16).drop k)).map (acc ++ ·))) (fun i _ => 16 - (intOf i).toNat)
  case atStart => exact ⟨0, _, _, [], by omega, rfl, HN, Lib.hid (by simp)⟩
  case round =>
    clear HN
    obtain ⟨k, A', c', acc, hk, rfl, FLk, HT⟩ := hrel
    by_cases hlt : k < 16
    · have hi : (k : Int) < 16 := by omega
      have hc := HA.out _ FLk.out.bel k (by omega)
      have HNx : Hid (cellsP ((ss.take 16).drop k) = match page2 hexL (ss.getD k ByteArray.empty) with | none => none | some a => (cellsP ((ss.take 16).drop (k + 1))).map (a ++ ·)) := Lib.hid (by
        have hk' : k < (ss.take 16).length := by rw [List.length_take, HL.out]; omega
        have e : (ss.take 16)[k]'hk' = ss.getD k ByteArray.empty := by
          rw [List.getElem_take, List.getD_eq_getElem?_getD, List.getElem?_eq_getElem (by rw [HL.out]; omega), Option.getD_some]
        rw [List.drop_eq_getElem_cons hk', cellsP, e]
        cases page2 hexL (ss.getD k ByteArray.empty) <;> rfl)
      have r0 := FLk.out.r.cell 0 rfl
      have r1 := FLk.out.r.cell 1 rfl
      have r2 := FLk.out.r.cell 2 rfl
      have s0 := FLk.out.r.frozen 0
      have s1 := FLk.out.r.frozen 1
      have s2 := FLk.out.r.frozen 2
      generalize hs : ss.getD k ByteArray.empty = s at hc HNx
      have HSk := Lib.hid hs
      clear hs
      by_cases hsz : s.size = 32
      · have hq : ((s.size : Int) != 32) = false := by simp; omega
        have HP : Hid (page2 hexL s = pageNums hexL 2 16 s.data.toList) := Lib.hid (by unfold page2; rw [if_pos hsz])
        have HSz := Lib.hid hsz
        clear hsz r0 r1 r2 s0 s1 s2
        go_wp2
        go_loopw [6] (fun j wr => ∃ (m : Nat) (A' : Option Addr) (c' : Nat) (pre : List Int), m ≤ 16 ∧ j = .int .i64 m ∧ Hid (FL w wr A' (16 * k + m) c' (acc ++ pre) (some ⟨w.heap.size + 1 + 1, 0, none⟩) 0 0 []) ∧ Hid (page2 hexL s = (pageNums hexL 2 (16 - m) (s.data.toList.drop (m * 2))).map (pre ++ ·))) (fun i _ => 16 - (intOf i).toNat)
        case atStart => exact ⟨0, A', c', [], by omega, rfl, by simpa using FLk, Lib.hid (by rw [HP.out]; simp)⟩
        case round =>
          clear FLk hc
          obtain ⟨m, A1, c1, pre, hm, rfl, FLm, HU⟩ := hrel
          have hc := HA.out _ FLm.out.bel k (by omega)
          rw [HSk.out] at hc
          by_cases hmt : m < 16
          · have hj : (m : Int) < 16 := by omega
            have HBy := Lib.hid (byte_at s m HSz.out hmt)
            have HSt := Lib.hid (nums_step s m hmt)
            have HC := Lib.hid (fun W => l04Byte (s.extract (2 * m) (2 * m + 2)) W)
            rw [HBy.out] at HC
            generalize readNum hexL 0 ((s.data.toList.drop (m * 2)).take 2) = o at HC HSt
            have r0 := FLm.out.r.cell 0 rfl
            have r1 := FLm.out.r.cell 1 rfl
            have r2 := FLm.out.r.cell 2 rfl
            have s0 := FLm.out.r.frozen 0
            have s1 := FLm.out.r.frozen 1
            have s2 := FLm.out.r.frozen 2
            have e1 : IntKind.i64.wrap (2 * (m : Int)) = 2 * (m : Int) := IntWalk.i64_in _ (by omega)
            have e2 : IntKind.i64.wrap (2 * (m : Int) + 2) = 2 * (m : Int) + 2 := IntWalk.i64_in _ (by omega)
            have b1 : (0 : Int) ≤ 2 * (m : Int) := by omega
            have b2 : 2 * (m : Int) ≤ 2 * (m : Int) + 2 := by omega
            have b3 : 2 * (m : Int) + 2 ≤ (s.size : Int) := by rw [HSz.out]; omega
            have b4 : (2 * (m : Int)).toNat = 2 * m := by omega
            have b5 : (2 * (m : Int) + 2).toNat = 2 * m + 2 := by omega
            clear HBy
            go_wp2_with fail
            refine (HC.out _).mono ?_
            rintro e w2 ⟨rfl, rfl⟩
            cases o with
            | none =>
              have HFn : Hid (flashL ss = none) := Lib.hid (by
                rw [HF.out]
                refine nonePair (.inl ?_)
                rw [HT.out, HNx.out, HU.out, HSt.out]; rfl)
              have hbz := FLm.out.bel
              simp only [dvV, Option.isSome_none]
              go_wp2
              refine bodyPost_ret (v := .tuple #[.agg #[.slice none 0 0, .slice none 0 0, .int .i64 0], .bool false]) (by simp [results, Try.results60, go_sem, r0, r1, r2]) rfl ?_
              rw [HG4.out]
              exact ⟨.inl ⟨HFn.out, rfl⟩, below3 hbz (Nat.le_refl _) _ _ _⟩
            | some v =>
              simp only [dvV, Option.isSome_some]
              have HU2 : Hid (page2 hexL s = (pageNums hexL 2 (16 - (m + 1)) (s.data.toList.drop ((m + 1) * 2))).map ((pre ++ [(v : Int)]) ++ ·)) := Lib.hid (by rw [HU.out, HSt.out]; simp only; rw [optmap_app])
              have f0 := FLm.out.f.cell 0 rfl
              obtain ⟨ap, hap⟩ : ∃ ap, ap = acc ++ pre := ⟨_, rfl⟩
              rw [← hap] at FLm
              have HAP := Lib.hid hap
              clear hap
              have HBa : Hid (Below wr.heap.size wr (wr.alloc (.cells #[.int .i64 (v : Int)] 3))) := Lib.hid (alloc_below _ _)
              have FL2 := Lib.hid (FLm.out.step HBa.out)
              have HNw : Hid (∀ i u, [Value.int .i64 (v : Int)][i]? = some u → (wr.alloc (.cells #[.int .i64 (v : Int)] 3)).cell? ⟨wr.heap.size, i, none⟩ = some u) := Lib.hid (fun i u hi => by
                match i, hi with
                | 0, hi => simp at hi; subst hi; exact (Box.new wr 3 #[.int .i64 (v : Int)]).cell 0 rfl)
              have hszr := FLm.out.size
              clear FLm HU HSt r0 r1 r2 s0 s1 s2 hc b1 b2 b3 b4 b5
              go_wp2_with (at_builtin; refine wpList_app_one rfl (.tmp 47) (.tmp 49) 23 3 rfl (.int .i64 0) 1 8 elemInt Try.underlying23 (w.heap.size + 1) (.slice A1 (16 * k + m) c1) (16 * k + m) (ap.map (Value.int .i64)) rfl ?hown wr.heap.size 1 rfl [.int .i64 (v : Int)] rfl ?hnews ?hone ?h63 ?hby ?hbase ?_)
              case hown => exact FL2.out.i
              case hnews => exact HNw.out
              case hone => intro u hu; simp at hu; subst hu; rfl
              case h63 => unfold maxLen; omega
              case hby => omega
              case hbase => have := HBa.out.size; omega
              intro A2 c2 w3 hR3 hc3 hg3 hb3
              have F3 := FL2.out.f.grown FL2.out.i (by decide) hg3
              have g0 := F3.cell 0 rfl
              have g0z := F3.frozen 0
              have FL3 := Lib.hid (FL2.out.int hR3 hg3 hb3)
              clear hR3 hc3 hg3 hb3 FL2 HBa HNw F3 f0 hszr
              go_wp2
              go_roundw
              case rel => first | exact ⟨m + 1, A2, c2, pre ++ [(v : Int)], by omega, by go_num, by rw [← List.append_assoc, ← Nat.add_assoc, ← HAP.out]; exact FL3, HU2⟩ | ((repeat apply Exists.intro); exact ⟨⟨m + 1, A2, c2, pre ++ [(v : Int)], by omega, by go_num, by rw [← List.append_assoc, ← Nat.add_assoc, ← HAP.out]; exact FL3, HU2⟩, rfl⟩)
              case measure => simp [intOf]; omega
          · obtain rfl : m = 16 := by omega
            have HU3 : Hid (page2 hexL s = some pre) := Lib.hid (by rw [HU.out]; simp [pageNums])
            have HT3 : Hid (cellsP (ss.take 16) = (cellsP ((ss.take 16).drop (k + 1))).map ((acc ++ pre) ++ ·)) := Lib.hid (by rw [HT.out, HNx.out, HU3.out]; simp only; rw [optmap_app2])
            clear HU
            go_wp2
            exact ⟨⟨k + 1, A1, c1, acc ++ pre, by omega, by go_num, by rw [show 16 * (k + 1) = 16 * k + 16 by omega]; exact FLm, HT3⟩, by simp [intOf]; omega⟩
      · have hq : ((s.size : Int) != 32) = true := by simp; omega
        have HFn : Hid (flashL ss = none) := Lib.hid (by
          rw [HF.out]
          refine nonePair (.inl ?_)
          rw [HT.out, HNx.out]
          have : page2 hexL s = none := by unfold page2; rw [if_neg hsz]
          rw [this]; rfl)
        have hbz := FLk.out.bel
        clear hsz
        go_wp2
        refine bodyPost_ret (v := .tuple #[.agg #[.slice none 0 0, .slice none 0 0, .int .i64 0], .bool false]) (by simp [results, Try.results60, go_sem, r0, r1, r2]) rfl ?_
        rw [HG4.out]
        exact ⟨.inl ⟨HFn.out, rfl⟩, below3 hbz (Nat.le_refl _) _ _ _⟩
    · obtain rfl : k = 16 := by omega
      have HZ : Hid (cellsP (ss.take 16) = some acc) := Lib.hid (by rw [HT.out, List.drop_eq_nil_of_le (by rw [List.length_take]; omega)]; simp [cellsP])
      have hc := HA.out _ FLk.out.bel 16 (by omega)
      have r0 := FLk.out.r.cell 0 rfl
      have r1 := FLk.out.r.cell 1 rfl
      have r2 := FLk.out.r.cell 2 rfl
      have s0 := FLk.out.r.frozen 0
      have s1 := FLk.out.r.frozen 1
      have s2 := FLk.out.r.frozen 2
      generalize hs : ss.getD 16 ByteArray.empty = s at hc HF
      have HSk := Lib.hid hs
      clear hs HT
      by_cases hsz : s.size = 16
      · have hq : ((s.size : Int) != 16) = false := by simp; omega
        have HSz := Lib.hid hsz
        have HGz := Lib.hid (guardFrom_zero s hsz)
        clear hsz r0 r1 r2 s0 s1 s2
        go_wp2
        go_loopw [9] (fun j wr => ∃ (m : Nat) (C' : Option Addr) (d' : Nat) (gs : List Bool), m ≤ 16 ∧ j = .int .i64 m ∧ Hid (FL w wr A' 256 c' acc C' m d' gs) ∧ Hid (guardP s = (guardFrom s m).map (gs ++ ·))) (fun i _ => 16 - (intOf i).toNat)
        case atStart => exact ⟨0, _, _, [], by omega, rfl, FLk, Lib.hid (by rw [HGz.out]; simp)⟩
        case round =>
          clear FLk hc
          obtain ⟨m, C1, d1, gs, hm, rfl, FLm, HU⟩ := hrel
          have hc := HA.out _ FLm.out.bel 16 (by omega)
          rw [HSk.out] at hc
          have r0 := FLm.out.r.cell 0 rfl
          have r1 := FLm.out.r.cell 1 rfl
          have r2 := FLm.out.r.cell 2 rfl
          have s0 := FLm.out.r.frozen 0
          have s1 := FLm.out.r.frozen 1
          have s2 := FLm.out.r.frozen 2
          by_cases hmt : m < 16
          · have hj : (m : Int) < 16 := by omega
            have hm2 : m < s.size := by rw [HSz.out]; exact hmt
            have HSt := Lib.hid (guardFrom_step s m hmt HSz.out)
            have ix : ∀ W, (Instr.index 9 (.string s) (.int .i64 (m : Int))).run Try.prog W = .ok (.int .u8 ((s[m]'hm2).toNat : Int)) W := fun W => by
              rw [run_index_string W 9 _ .i64 (m : Int) Try.underlying9, dif_pos ⟨by omega, by omega⟩]; rfl
            generalize s[m]'hm2 = b at HSt ix
            have f1 := FLm.out.f.cell 1 rfl
            by_cases h8 : b.toNat = 48 ∨ b.toNat = 49
            · have HU2 : Hid (guardP s = (guardFrom s (m + 1)).map ((gs ++ [decide (b.toNat = 49)]) ++ ·)) := Lib.hid (by
                rw [HU.out, HSt.out, if_pos h8, Option.map_map]
                congr 1
                funext x
                simp)
              have qe : ((b.toNat : Int) == 49) = decide (b.toNat = 49) := by rw [Bool.eq_iff_iff]; simp; omega
              generalize decide (b.toNat = 49) = v at HU2 qe
              have HBa : Hid (Below wr.heap.size wr (wr.alloc (.cells #[.bool v] 4))) := Lib.hid (alloc_below _ _)
              have FL2 := Lib.hid (FLm.out.step HBa.out)
              have HNw : Hid (∀ i u, [Value.bool v][i]? = some u → (wr.alloc (.cells #[.bool v] 4)).cell? ⟨wr.heap.size, i, none⟩ = some u) := Lib.hid (fun i u hi => by
                match i, hi with
                | 0, hi => simp at hi; subst hi; exact (Box.new wr 4 #[.bool v]).cell 0 rfl)
              have hszr := FLm.out.size
              have H8 := Lib.hid h8
              have q8 : (((b.toNat : Int) != 48) = true ∧ ((b.toNat : Int) != 49) = false) ∨ ((b.toNat : Int) != 48) = false := by
                rcases h8 with h8 | h8
                · right; simp; omega
                · left; constructor <;> simp <;> omega
              clear FLm HU HSt r0 r1 r2 s0 s1 s2 h8
              rcases q8 with ⟨q1, q2⟩ | q1
              · go_wp2_with (at_builtin; refine wpList_app_one rfl (.tmp 75) (.tmp 78) 24 4 rfl (.bool false) 1 1 elemBool Try.underlying24 (w.heap.size + 1) (.slice C1 m d1) m (gs.map Value.bool) rfl ?hown wr.heap.size 1 rfl [.bool v] rfl ?hnews ?hone ?h63 ?hby ?hbase ?_)
                case hown => exact FL2.out.b
                case hnews => exact HNw.out
                case hone => intro u hu; simp at hu; subst hu; rfl
                case h63 => unfold maxLen; omega
                case hby => omega
                case hbase => have := HBa.out.size; omega
                intro A2 c2 w3 hR3 hc3 hg3 hb3
                have F3 := FL2.out.f.grown FL2.out.b (by decide) hg3
                have g0 := F3.cell 1 rfl
                have g0z := F3.frozen 1
                have FL3 := Lib.hid (FL2.out.bool hR3 hg3 hb3)
                clear hR3 hc3 hg3 hb3 FL2 HBa HNw F3 f1 hszr
                go_wp2
                go_roundw
                case rel => first | exact ⟨m + 1, A2, c2, gs ++ [v], by omega, by go_num, FL3, HU2⟩ | ((repeat apply Exists.intro); exact ⟨⟨m + 1, A2, c2, gs ++ [v], by omega, by go_num, FL3, HU2⟩, rfl⟩)
                case measure => simp [intOf]; omega
              · go_wp2_with (at_builtin; refine wpList_app_one rfl (.tmp 75) (.tmp 78) 24 4 rfl (.bool false) 1 1 elemBool Try.underlying24 (w.heap.size + 1) (.slice C1 m d1) m (gs.map Value.bool) rfl ?hown wr.heap.size 1 rfl [.bool v] rfl ?hnews ?hone ?h63 ?hby ?hbase ?_)
                case hown => exact FL2.out.b
                case hnews => exact HNw.out
                case hone => intro u hu; simp at hu; subst hu; rfl
                case h63 => unfold maxLen; omega
                case hby => omega
                case hbase => have := HBa.out.size; omega
                intro A2 c2 w3 hR3 hc3 hg3 hb3
                have F3 := FL2.out.f.grown FL2.out.b (by decide) hg3
                have g0 := F3.cell 1 rfl
                have g0z := F3.frozen 1
                have FL3 := Lib.hid (FL2.out.bool hR3 hg3 hb3)
                clear hR3 hc3 hg3 hb3 FL2 HBa HNw F3 f1 hszr
                go_wp2
                go_roundw
                case rel => first | exact ⟨m + 1, A2, c2, gs ++ [v], by omega, by go_num, FL3, HU2⟩ | ((repeat apply Exists.intro); exact ⟨⟨m + 1, A2, c2, gs ++ [v], by omega, by go_num, FL3, HU2⟩, rfl⟩)
                case measure => simp [intOf]; omega
            · have q1 : ((b.toNat : Int) != 48) = true := by simp; omega
              have q2 : ((b.toNat : Int) != 49) = true := by simp; omega
              have HFn : Hid (flashL ss = none) := Lib.hid (by
                rw [HF.out]
                refine nonePair (.inr ?_)
                rw [HU.out, HSt.out, if_neg h8]; rfl)
              have hbz := FLm.out.bel
              clear h8
              go_wp2
              refine bodyPost_ret (v := .tuple #[.agg #[.slice none 0 0, .slice none 0 0, .int .i64 0], .bool false]) (by simp [results, Try.results60, go_sem, r0, r1, r2]) rfl ?_
              rw [HG4.out]
              exact ⟨.inl ⟨HFn.out, rfl⟩, below3 hbz (Nat.le_refl _) _ _ _⟩
          · obtain rfl : m = 16 := by omega
            have HFn : Hid (flashL ss = some (acc, gs)) := Lib.hid (by rw [HF.out, HZ.out, HU.out, guardFrom_end]; simp [pairO])
            have f0 := FLm.out.f.cell 0 rfl
            have f1 := FLm.out.f.cell 1 rfl
            have f2 := FLm.out.f.cell 2 rfl
            have hbz := FLm.out.bel
            have HOi : Hid (OwnI wr w.heap.size wr.heap.size A' acc) := Lib.hid (GroI.own (by unfold GroI; rw [FLm.out.len]; exact FLm.out.i) (by omega))
            have HOb : Hid (OwnB wr w.heap.size wr.heap.size C1 gs) := Lib.hid (GroB.own (by unfold GroB; rw [FLm.out.lem]; exact FLm.out.b) (by omega))
            have HX := Lib.hid FLm.out.r
            have HLn := Lib.hid (And.intro FLm.out.len FLm.out.lem)
            clear FLm HU
            go_wp2
            refine bodyPost_ret (v := .tuple #[.agg #[.slice A' 256 c', .slice C1 16 d1, .int .i64 0], .bool true]) (by simp [results, Try.results60, go_sem, r0, r1, r2]) rfl ?_
            rw [HG4.out]
            exact ⟨.inr ⟨acc, gs, A', c', C1, d1, HFn.out, rfl, Lib.hid (by rw [size3]; exact HOi.out.far3 HX.out _ _ _), Lib.hid (by rw [size3]; exact HOb.out.far3 HX.out _ _ _), HLn.out.1, HLn.out.2⟩, below3 hbz (Nat.le_refl _) _ _ _⟩
      · have hq : ((s.size : Int) != 16) = true := by simp; omega
        have HFn : Hid (flashL ss = none) := Lib.hid (by
          rw [HF.out]
          refine nonePair (.inr ?_)
          unfold guardP page1
          rw [if_neg hsz]; rfl)
        have hbz := FLk.out.bel
        clear hsz
        go_wp2
        refine bodyPost_ret (v := .tuple #[.agg #[.slice none 0 0, .slice none 0 0, .int .i64 0], .bool false]) (by simp [results, Try.results60, go_sem, r0, r1, r2]) rfl ?_
        rw [HG4.out]
        exact ⟨.inl ⟨HFn.out, rfl⟩, below3 hbz (Nat.le_refl _) _ _ _⟩

theorem flashOf_of (ss : List ByteArray) (h : pagesC ss = 0) : flashOf ss = match flashL ss with | some p => (p.1, p.2, 0) | none => ([], [], 3) := by
  unfold flashOf flashL
  rw [if_neg (by rw [h]; decide)]
  cases cellsP (ss.take 16) <;> cases guardP (ss.getD 16 ByteArray.empty) <;> rfl

set_option maxRecDepth 100000 in
set_option maxHeartbeats 4000000 in
theorem specFlashOfW (A : Option Addr) (n c : Nat) (ss : List ByteArray) (w : World) (hl : ss.length = n) (hn : n ≤ maxLen) (h : StrL w A ss) (fs : FitS ss) :
    Calls Try.prog 30 #[.slice A n c] w (GivesFlashOf ss w) := by
  have hb0 := alloc_below w (.cells #[.slice none 0 0, .slice none 0 0, .int .i64 0] 26)
  have X0 := Lib.hid (Box.new w 26 #[.slice none 0 0, .slice none 0 0, .int .i64 0])
  have HC := Lib.hid (fun W (hb : Below w.heap.size w W) => l02Pages A n c ss W hl hn (h.below hb) fs)
  by_cases hbig : 4096 < n
  · have hq : (4096 : Int) < (n : Int) := by omega
    have HN : Hid (flashOf ss = ([], [], 2)) := Lib.hid (by
      have : pagesC ss = 2 := by unfold pagesC; rw [if_pos (by rw [hl]; exact hbig)]
      unfold flashOf; rw [if_pos (by rw [this]; decide), this])
    unfold maxLen at hn
    clear hbig h fs hl HC
    go_enter Try.func30, Try.ntmps30
    go_wp2
    refine bodyPost_ret (v := .tuple #[.agg #[.slice none 0 0, .slice none 0 0, .int .i64 0], .int .i64 2]) (by simp [results, Try.results30, go_sem]) rfl ?_
    exact givesNo HN.out hb0
  · have hq : ¬ (4096 : Int) < (n : Int) := by omega
    by_cases hp : pagesC ss = 0
    · have hlen := pagesC_len hp
      obtain rfl : n = 17 := by omega
      rw [hp] at HC
      have HR := Lib.hid (fun W (hb : Below w.heap.size w W) => l04Flash A c ss W hlen (h.below hb))
      have HF := Lib.hid (flashOf_of ss hp)
      clear hp hlen hl hn h fs hbig
      go_enter Try.func30, Try.ntmps30
      go_wp2_with fail
      refine (HC.out _ hb0).mono ?_
      rintro e w1 ⟨rfl, rfl⟩
      go_wp2_with fail
      refine (HR.out _ hb0).mono ?_
      rintro e w2 ⟨hres, hb2⟩
      have X2 := Lib.hid (X0.out.step hb2)
      have hbz := bt hb0 hb2
      have hlt2 : w.heap.size < w2.heap.size := X2.out.lt
      rcases hres with ⟨hpz, rfl⟩ | ⟨z, g, A2, c2, C2, d2, hpz, rfl, O2, O3, hzl, hgl⟩
      · have HN : Hid (flashOf ss = ([], [], 3)) := Lib.hid (by rw [HF.out, hpz])
        have x0 := X2.out.cell 0 rfl
        have x1 := X2.out.cell 1 rfl
        have x2 := X2.out.cell 2 rfl
        have y0 := X2.out.frozen 0
        have y1 := X2.out.frozen 1
        have y2 := X2.out.frozen 2
        have hne : w.heap.size ≠ w2.heap.size := by omega
        clear hpz
        go_wp2
        have Y := (((X2.out.set 0 (.slice none 0 0)).set 1 (.slice none 0 0)).set 2 (.int .i64 0)).alloc (.cells #[.slice none 0 0, .slice none 0 0, .int .i64 0] 26)
        have z0 := Y.cell 0 (v := .slice none 0 0) rfl
        have z1 := Y.cell 1 (v := .slice none 0 0) rfl
        have z2 := Y.cell 2 (v := .int .i64 0) rfl
        refine bodyPost_ret (v := .tuple #[.agg #[.slice none 0 0, .slice none 0 0, .int .i64 0], .int .i64 3]) (by simp [results, Try.results30, go_sem, z0, z1, z2]) rfl ?_
        refine givesNo HN.out ?_
        exact bt (below3 hbz (Nat.le_refl _) _ _ _) (alloc_below _ _)
      · have HN : Hid (flashOf ss = (z, g, 0)) := Lib.hid (by rw [HF.out, hpz])
        have x0 := X2.out.cell 0 rfl
        have x1 := X2.out.cell 1 rfl
        have x2 := X2.out.cell 2 rfl
        have y0 := X2.out.frozen 0
        have y1 := X2.out.frozen 1
        have y2 := X2.out.frozen 2
        have hne : w.heap.size ≠ w2.heap.size := by omega
        have HO2 := Lib.hid (O2.out.wideB hb0.size (Nat.le_refl _))
        have HO3 := Lib.hid (O3.out.wide hb0.size (Nat.le_refl _))
        have HZl := Lib.hid hzl
        have HGl := Lib.hid hgl
        clear hpz O2 O3 hzl hgl
        go_wp2
        have Y := (((X2.out.set 0 (.slice A2 256 c2)).set 1 (.slice C2 16 d2)).set 2 (.int .i64 0)).alloc (.cells #[.slice A2 256 c2, .slice C2 16 d2, .int .i64 0] 26)
        have z0 := Y.cell 0 (v := .slice A2 256 c2) rfl
        have z1 := Y.cell 1 (v := .slice C2 16 d2) rfl
        have z2 := Y.cell 2 (v := .int .i64 0) rfl
        refine bodyPost_ret (v := .tuple #[.agg #[.slice A2 256 c2, .slice C2 16 d2, .int .i64 0], .int .i64 0]) (by simp [results, Try.results30, go_sem, z0, z1, z2]) rfl ?_
        unfold GivesFlashOf
        rw [HN.out]
        simp only
        rw [HZl.out, HGl.out]
        refine ⟨A2, C2, c2, d2, rfl, Lib.hid ?_, bt (below3 hbz (Nat.le_refl _) _ _ _) (alloc_below _ _)⟩
        have q1 := HO2.out.far3 X2.out (.slice A2 256 c2) (.slice C2 16 d2) (.int .i64 0)
        have q2 := HO3.out.far3 X2.out (.slice A2 256 c2) (.slice C2 16 d2) (.int .i64 0)
        have q3 := ownIB (c := c2) (d := d2) q1 q2
        rw [HZl.out, HGl.out] at q3
        exact (q3.below (alloc_below _ _)).wide (Nat.le_refl _) (by simp [World.setCell])
    · have HN : Hid (flashOf ss = ([], [], pagesC ss)) := Lib.hid (by unfold flashOf; rw [if_pos hp])
      have hq2 : (pagesC ss != 0) = true := by simp [hp]
      generalize pagesC ss = pc at HC HN hq2
      unfold maxLen at hn
      clear hp hl h fs hbig
      go_enter Try.func30, Try.ntmps30
      go_wp2_with fail
      refine (HC.out _ hb0).mono ?_
      rintro e w1 ⟨rfl, rfl⟩
      go_wp2
      refine bodyPost_ret (v := .tuple #[.agg #[.slice none 0 0, .slice none 0 0, .int .i64 0], .int .i64 pc]) (by simp [results, Try.results30, go_sem]) rfl ?_
      exact givesNo HN.out hb0
set_option maxRecDepth 100000 in
theorem specFlashOfA (A0 : Option Addr) (c0 : Nat) (d0 : List ByteArray) (w : World) (h : RepA w [.slice A0 d0.length c0] [.S d0]) (_cp : CapA [.slice A0 d0.length c0]) (z : szA [.S d0] ≤ 1048576) :
    Calls Try.prog 30 #[.slice A0 d0.length c0] w (fun e w' => ∃ rA0 rA1 rc0 rc1, e = .returned (.tuple #[.agg #[.slice rA0 (flashOf d0).1.length rc0, .slice rA1 (flashOf d0).2.1.length rc1, .int .i64 (flashSt d0)], .int .i64 (flashOf d0).2.2]) ∧ Hid (OwnA w' w.heap.size w'.heap.size [.slice rA0 (flashOf d0).1.length rc0, .slice rA1 (flashOf d0).2.1.length rc1] [.I (flashOf d0).1, .B (flashOf d0).2.1]) ∧ Below w.heap.size w w') :=
  specFlashOfW A0 _ c0 d0 w rfl (by simp only [szA, Lf.sz] at z; unfold maxLen; omega) (repS h.1) (fit_of_sz z)
end Go.Proofs.Ythobepmlopegbaa

/- Contracts of both PagesOf. -/
namespace Go.Proofs.Ythobepmlopegbaa
open Go.RowKit

set_option maxRecDepth 100000 in
theorem mk_strs (W : World) : (Instr.makeSlice 28 (.int .i64 0) (.int .i64 17)).run Try.prog W = .ok (.slice (some ⟨W.heap.size, 0, none⟩) 0 17) (W.alloc (.cells (madeCells #[.string ByteArray.empty] 17) 9)) := by kernel_rfl
theorem page_take (zs : List Int) (k : Nat) (hk : k < 16) : ((List.range 16).map (pageB zs)).take (k + 1) = ((List.range 16).map (pageB zs)).take k ++ [pageB zs k] := by
  rw [List.take_succ_eq_append_getElem (by simp; omega)]
  simp
theorem pages_len (zs : List Int) (gs : List Bool) : (pagesL zs gs).length = 17 := by simp [pagesL]
theorem okRange {zs : List Int} {gs : List Bool} {st : Int} (h : okFlash zs gs st = true) : zs.length = 256 ∧ gs.length = 16 ∧ ∀ z ∈ zs, 0 ≤ z ∧ z ≤ 255 := by
  obtain ⟨h1, h2, _, h4⟩ := okFlash_len h
  exact ⟨h1, h2, h4⟩

set_option maxRecDepth 100000 in
set_option maxHeartbeats 2000000 in
theorem implPagesOf (A C : Option Addr) (c d : Nat) (st : Int) (zs : List Int) (gs : List Bool) (w : World) (hok : okFlash zs gs st = true) (hc : 256 ≤ c) (h : IntL w A zs) (g : BoolL w C gs) :
    Calls Try.prog 11 #[.agg #[.slice A 256 c, .slice C 16 d, .int .i64 st]] w fun e w' => ∃ A' c', e = .returned (.tuple #[.slice A' 17 c', .int .i64 0]) ∧ Hid (OwnS w' w.heap.size w'.heap.size A' (pagesL zs gs)) ∧ Hid (17 ≤ c') ∧ Below w.heap.size w w' := by
  obtain ⟨hl, hm, hz⟩ := okRange hok
  have hb0 := alloc_below w (.cells #[.slice A 256 c, .slice C 16 d, .int .i64 st] 26)
  have HV := Lib.hid (fun W (hb : Below w.heap.size w W) => flashValid A C 256 c 16 d st zs gs W hl hm (by unfold maxLen; omega) (by unfold maxLen; omega) (h.below hb))
  rw [hok] at HV
  have HP := Lib.hid (fun W (hb : Below w.heap.size w W) b hb' => blockPage A C c 16 d st zs b W hl hz hc hb' (h.below hb))
  have HQ := Lib.hid (fun W (hb : Below w.heap.size w W) => guardPage A C 256 c d st gs W hm (g.below hb))
  have X0 := Lib.hid (Box.new w 26 #[.slice A 256 c, .slice C 16 d, .int .i64 st])
  have hmk := mk_strs
  clear hok hc h g hl hm hz
  go_enter Try.func11, Try.ntmps11
  go_wp2_with fail
  refine (HV.out _ hb0).mono ?_
  rintro e w1 ⟨rfl, hb1⟩
  have hs1 : w.heap.size + 1 ≤ w1.heap.size := by have := X0.out.lt; have := hb1.size; omega
  have X1 := Lib.hid (X0.out.step hb1)
  have hb2 := bt hb0 hb1
  have G1 : Hid (GroS (w1.alloc (.cells (madeCells #[.string ByteArray.empty] 17) 9)) (w.heap.size + 1) (.slice (some ⟨w1.heap.size, 0, none⟩) 0 17) []) := Lib.hid (World.ownsRow_made w1 _ 17 hs1 (by unfold maxLen; omega) (size_madeCells _ _))
  have hb3 : Below w.heap.size w (w1.alloc (.cells (madeCells #[.string ByteArray.empty] 17) 9)) := bt hb2 (alloc_below _ _)
  have X2 := Lib.hid (X1.out.alloc (.cells (madeCells #[.string ByteArray.empty] 17) 9))
  have hs2 : w.heap.size + 1 ≤ (w1.alloc (.cells (madeCells #[.string ByteArray.empty] 17) 9)).heap.size := by simp; omega
  clear X0 X1 hb0 hb1 hb2
  go_wp2
  clear hmk
  go_loopw [4, 10] (fun v i wr => ∃ (k : Nat) (A' : Option Addr) (c' : Nat), k ≤ 16 ∧ v = .slice A' k c' ∧ i = .int .i64 k ∧ Below w.heap.size w wr ∧ Hid (GroS wr (w.heap.size + 1) (.slice A' k c') (((List.range 16).map (pageB zs)).take k)) ∧ Hid (Box wr w.heap.size 26 #[.slice A 256 c, .slice C 16 d, .int .i64 st]) ∧ w.heap.size + 1 ≤ wr.heap.size) (fun _ i _ => 16 - (intOf i).toNat)
  case atStart => exact ⟨0, _, _, by omega, rfl, rfl, hb3, G1, X2, hs2⟩
  case round =>
    clear G1 X2 hs2 hb3 hs1
    obtain ⟨k, A', c', hk, rfl, rfl, hbw, G, X, hsz⟩ := hrel
    have f0 := X.out.cell 0 rfl
    have f1 := X.out.cell 1 rfl
    have f2 := X.out.cell 2 rfl
    by_cases hlt : k < 16
    · have hi : (k : Int) < 16 := by omega
      have HSt := Lib.hid (page_take zs k hlt)
      have HLk : Hid ((((List.range 16).map (pageB zs)).take k).length = k) := Lib.hid (by simp; omega)
      have HPk := Lib.hid (HP.out wr hbw k hlt)
      generalize pageB zs k = s at HSt HPk
      generalize hfl : ((List.range 16).map (pageB zs)).take k = fl at G HSt HLk
      clear hfl
      have HRk : Hid (wr.ownsRow (w.heap.size + 1) 9 1 (.slice A' k c') k (fl.map Value.string)) := Lib.hid (by have := G.out; unfold GroS at this; rw [HLk.out] at this; exact this)
      go_wp2_with fail
      refine HPk.out.mono ?_
      rintro e w2 ⟨rfl, hb2⟩
      have HBa : Hid (Below wr.heap.size wr (w2.alloc (.cells #[.string s] 9))) := Lib.hid (bt hb2 (alloc_below _ _))
      have HOw := Lib.hid (rowv_below HRk.out HBa.out)
      have HNw : Hid (∀ i u, [Value.string s][i]? = some u → (w2.alloc (.cells #[.string s] 9)).cell? ⟨w2.heap.size, i, none⟩ = some u) := Lib.hid (fun i u hi => by
        match i, hi with
        | 0, hi => simp at hi; subst hi; exact (Box.new w2 9 #[.string s]).cell 0 rfl)
      go_wp2_with (at_builtin; refine wpList_app_one rfl (.tmp 13) (.tmp 17) 28 9 rfl (.string ByteArray.empty) 1 16 elemStr Try.underlying28 (w.heap.size + 1) (.slice A' k c') k (fl.map Value.string) rfl ?hown w2.heap.size 1 rfl [.string s] rfl ?hnews ?hone ?h63 ?hby ?hbase ?_)
      case hown => exact HOw.out
      case hnews => exact HNw.out
      case hone => intro u hu; simp at hu; subst hu; rfl
      case h63 => unfold maxLen; omega
      case hby => omega
      case hbase => exact Nat.le_trans hsz HBa.out.size
      intro A2 c2 w3 hR3 hc3 hg3 hb3
      have X3 := Lib.hid ((X.out.step HBa.out).below hb3 (by omega))
      have hbz : Below w.heap.size w w3 := (bt hbw HBa.out).trans (hb3.mono (by omega))
      have hsz3 : w.heap.size + 1 ≤ w3.heap.size := Nat.le_trans (Nat.le_trans hsz HBa.out.size) hb3.size
      have HR3 := Lib.hid hR3
      clear hR3 hc3 hg3 hb3 hb2 HOw HNw HBa HRk G X f0 f1 f2 hbw hsz
      go_wp2
      go_roundw
      case rel => first | exact ⟨k + 1, A2, c2, by omega, rfl, by go_num, hbz, Lib.hid (by unfold GroS; rw [HSt.out, List.length_append, HLk.out, List.map_append]; exact HR3.out), X3, hsz3⟩ | ((repeat apply Exists.intro); exact ⟨⟨k + 1, A2, c2, by omega, rfl, by go_num, hbz, Lib.hid (by unfold GroS; rw [HSt.out, List.length_append, HLk.out, List.map_append]; exact HR3.out), X3, hsz3⟩, rfl⟩)
      case measure => simp [intOf]; omega
    · obtain rfl : k = 16 := by omega
      have HQk := Lib.hid (HQ.out wr hbw)
      have HSt : Hid (pagesL zs gs = ((List.range 16).map (pageB zs)).take 16 ++ [guardB gs]) := Lib.hid (by unfold pagesL; rw [List.take_of_length_le (by simp)])
      have HLk : Hid ((((List.range 16).map (pageB zs)).take 16).length = 16) := Lib.hid (by simp)
      generalize guardB gs = s at HSt HQk
      generalize hfl : ((List.range 16).map (pageB zs)).take 16 = fl at G HSt HLk
      clear hfl
      have HRk : Hid (wr.ownsRow (w.heap.size + 1) 9 1 (.slice A' 16 c') 16 (fl.map Value.string)) := Lib.hid (by have := G.out; unfold GroS at this; rw [HLk.out] at this; exact this)
      go_wp2_with fail
      refine HQk.out.mono ?_
      rintro e w2 ⟨rfl, hb2⟩
      have HBa : Hid (Below wr.heap.size wr (w2.alloc (.cells #[.string s] 9))) := Lib.hid (bt hb2 (alloc_below _ _))
      have HOw := Lib.hid (rowv_below HRk.out HBa.out)
      have HNw : Hid (∀ i u, [Value.string s][i]? = some u → (w2.alloc (.cells #[.string s] 9)).cell? ⟨w2.heap.size, i, none⟩ = some u) := Lib.hid (fun i u hi => by
        match i, hi with
        | 0, hi => simp at hi; subst hi; exact (Box.new w2 9 #[.string s]).cell 0 rfl)
      go_wp2_with (at_builtin; refine wpList_app_one rfl (.tmp 20) (.tmp 23) 28 9 rfl (.string ByteArray.empty) 1 16 elemStr Try.underlying28 (w.heap.size + 1) (.slice A' 16 c') 16 (fl.map Value.string) rfl ?hown w2.heap.size 1 rfl [.string s] rfl ?hnews ?hone ?h63 ?hby ?hbase ?_)
      case hown => exact HOw.out
      case hnews => exact HNw.out
      case hone => intro u hu; simp at hu; subst hu; rfl
      case h63 => unfold maxLen; omega
      case hby => omega
      case hbase => exact Nat.le_trans hsz HBa.out.size
      intro A2 c2 w3 hR3 hc3 hg3 hb3
      have hbz : Below w.heap.size w w3 := (bt hbw HBa.out).trans (hb3.mono (by omega))
      have HG3 : Hid (GroS w3 (w.heap.size + 1) (.slice A2 17 c2) (pagesL zs gs)) := Lib.hid (by unfold GroS; rw [HSt.out, List.length_append, HLk.out, List.map_append]; exact hR3)
      have HCp : Hid (17 ≤ c2) := Lib.hid hc3
      clear hR3 hc3 hg3 hb3 hb2 HOw HNw HBa HRk G X f0 f1 f2 hbw hsz
      go_wp2
      refine bodyPost_ret (v := .tuple #[.slice A2 17 c2, .int .i64 0]) (by simp [results, Try.results11, go_sem]) rfl ?_
      exact ⟨A2, c2, rfl, Lib.hid (HG3.out.own (by omega)), HCp, hbz⟩

set_option maxRecDepth 100000 in
theorem implPagesOfBad (A C : Option Addr) (n c m d : Nat) (st : Int) (zs : List Int) (gs : List Bool) (w : World) (hl : zs.length = n) (hm : gs.length = m) (hn : n ≤ maxLen) (hmm : m ≤ maxLen) (hok : okFlash zs gs st = false) (h : IntL w A zs) :
    Calls Try.prog 11 #[.agg #[.slice A n c, .slice C m d, .int .i64 st]] w fun e w' => e = .returned (.tuple #[.slice none 0 0, .int .i64 1]) ∧ Below w.heap.size w w' := by
  have hb0 := alloc_below w (.cells #[.slice A n c, .slice C m d, .int .i64 st] 26)
  have HV := Lib.hid (fun W (hb : Below w.heap.size w W) => flashValid A C n c m d st zs gs W hl hm hn hmm (h.below hb))
  rw [hok] at HV
  clear hok h hl hm hn hmm
  go_enter Try.func11, Try.ntmps11
  go_wp2_with fail
  refine (HV.out _ hb0).mono ?_
  rintro e w1 ⟨rfl, hb1⟩
  go_wp2
  refine bodyPost_ret (v := .tuple #[.slice none 0 0, .int .i64 1]) (by simp [results, Try.results11, go_sem]) rfl ?_
  exact ⟨rfl, bt hb0 hb1⟩
end Go.Proofs.Ythobepmlopegbaa

/- The contract of the model's l04Pages and PagesOf. -/
namespace Go.Proofs.Ythobepmlopegbaa
open Go.RowKit

set_option maxRecDepth 100000 in
theorem l01BitB (b : Bool) (w : World) : Calls Try.prog 73 #[.bool b] w fun e w' => e = .returned (.int .i64 (if b then 1 else 0)) ∧ w = w' := by
  cases b
  · go_enter Try.func73, Try.ntmps73
    go_wp2
    go_ret
    exact ⟨rfl, rfl⟩
  · go_enter Try.func73, Try.ntmps73
    go_wp2
    go_ret
    exact ⟨rfl, rfl⟩
theorem guard_next (gs : List Bool) (k : Nat) (hk : k < gs.length) : bs ((gs.take k).map gch) ++ (⟨#[gch (gs.getD k false)]⟩ : ByteArray) = bs ((gs.take (k + 1)).map gch) := by
  have h : (⟨#[gch (gs.getD k false)]⟩ : ByteArray) = bs [gch (gs.getD k false)] := rfl
  rw [h, bs_app, List.take_succ_eq_append_getElem hk, List.map_append]
  simp [List.getD_eq_getElem?_getD, hk]

set_option maxRecDepth 100000 in
set_option maxHeartbeats 4000000 in
theorem l04Pages (A C : Option Addr) (c d : Nat) (st : Int) (zs : List Int) (gs : List Bool) (w : World) (hok : okFlash zs gs st = true) (h : IntL w A zs) (g : BoolL w C gs) :
    Calls Try.prog 41 #[.agg #[.slice A 256 c, .slice C 16 d, .int .i64 st]] w fun e w' => ∃ A' c', e = .returned (.slice A' 17 c') ∧ Hid (OwnS w' w.heap.size w'.heap.size A' (pagesL zs gs)) ∧ Below w.heap.size w w' := by
  obtain ⟨hl, hm, hz⟩ := okRange hok
  obtain ⟨B, off, rfl, _⟩ := h 0 (by omega)
  have HA : Hid (∀ W, Below w.heap.size w W → ∀ k, k < 256 → ∃ z : Nat, z ≤ 255 ∧ zs.getD k 0 = z ∧ W.cell? ⟨B, off + k, none⟩ = some (.int .i64 (z : Int))) := Lib.hid (by
    intro W hbW k hk
    obtain ⟨B', off', e, hc'⟩ := (h.below hbW) k (by omega)
    injection e with e; injection e with e1 e2
    have hm : zs.getD k 0 ∈ zs := by
      rw [List.getD_eq_getElem?_getD, List.getElem?_eq_getElem (by omega), Option.getD_some]; exact List.getElem_mem _
    have := hz _ hm
    refine ⟨(zs.getD k 0).toNat, by omega, by omega, ?_⟩
    rw [show (((zs.getD k 0).toNat : Nat) : Int) = zs.getD k 0 by omega, e1, e2]
    exact hc')
  have HL := Lib.hid hl
  have HM := Lib.hid hm
  have HG := Lib.hid g
  obtain ⟨w1, hw1⟩ : ∃ w1, w1 = (w.alloc (.cells #[.slice (some ⟨B, off, none⟩) 256 c, .slice C 16 d, .int .i64 st] 26)).alloc (.cells #[] 9) := ⟨_, rfl⟩
  have hb1 : Below w.heap.size w w1 := by rw [hw1]; exact bt (alloc_below _ _) (alloc_below _ _)
  have X1 : Hid (Box w1 w.heap.size 26 #[.slice (some ⟨B, off, none⟩) 256 c, .slice C 16 d, .int .i64 st]) := Lib.hid (by rw [hw1]; exact (Box.new _ _ _).alloc _)
  have G1 : Hid (GroS w1 (w.heap.size + 1) (.slice (some ⟨w.heap.size + 1, 0, none⟩) 0 0) []) := Lib.hid (by
    unfold GroS
    refine rowv_empty (Nat.le_refl _) ?_
    rw [hw1]; simpa using Box.new (w.alloc (.cells #[.slice (some ⟨B, off, none⟩) 256 c, .slice C 16 d, .int .i64 st] 26)) 9 #[])
  have hs1 : w.heap.size + 1 ≤ w1.heap.size := by rw [hw1]; simp
  have HW1 := Lib.hid hw1
  clear hok h g hl hm hz hw1
  go_enter Try.func41, Try.ntmps41
  go_wp2
  rw [← HW1.out]
  clear HW1
  go_loopw [3, 4, 5] (fun v t i wr => ∃ (k : Nat) (A' : Option Addr) (c' : Nat), k ≤ 16 ∧ v = .slice A' k c' ∧ t = .string (bs ((gs.take k).map gch)) ∧ i = .int .i64 k ∧ Below w.heap.size w wr ∧ Hid (GroS wr (w.heap.size + 1) (.slice A' k c') (((List.range 16).map (pageB zs)).take k)) ∧ Hid (Box wr w.heap.size 26 #[.slice (some ⟨B, off, none⟩) 256 c, .slice C 16 d, .int .i64 st]) ∧ w.heap.size + 1 ≤ wr.heap.size) (fun _ _ i _ => 16 - (intOf i).toNat)
  case atStart => exact ⟨0, _, _, by omega, rfl, rfl, rfl, hb1, G1, X1, hs1⟩
  case round =>
    clear G1 X1 hs1 hb1
    obtain ⟨k, A', c', hk, rfl, rfl, rfl, hbw, G, X, hsz⟩ := hrel
    by_cases hlt : k < 16
    · have hi : (k : Int) < 16 := by omega
      have HGn := Lib.hid (guard_next gs k (by rw [HM.out]; exact hlt))
      have HGs : Hid ((bs ((gs.take k).map gch)).size ≤ 16) := Lib.hid (by rw [bs_size]; simp; omega)
      generalize bs ((gs.take k).map gch) = lt at HGn HGs
      go_wp2
      have hi2 := hi
      go_loopw [6, 7] (fun t j wr => ∃ (m : Nat), m ≤ 16 ∧ t = .string (bs (hexCat ((blockL zs k).take m))) ∧ j = .int .i64 m ∧ Below w.heap.size w wr ∧ Hid (GroS wr (w.heap.size + 1) (.slice A' k c') (((List.range 16).map (pageB zs)).take k)) ∧ Hid (Box wr w.heap.size 26 #[.slice (some ⟨B, off, none⟩) 256 c, .slice C 16 d, .int .i64 st]) ∧ w.heap.size + 1 ≤ wr.heap.size) (fun _ i _ => 16 - (intOf i).toNat)
      case atStart => exact ⟨0, by omega, rfl, rfl, hbw, G, X, hsz⟩
      case round =>
        clear G X hsz hbw
        obtain ⟨m, hmm, rfl, rfl, hbw, G, X, hsz⟩ := hrel
        have f0 := X.out.cell 0 rfl
        by_cases hmt : m < 16
        · have hj : (m : Int) < 16 := by omega
          obtain ⟨z, hz, hg, hc'⟩ := HA.out _ hbw (16 * k + m) (by omega)
          have HN : Hid (bs (hexCat ((blockL zs k).take m)) ++ hex2 z = bs (hexCat ((blockL zs k).take (m + 1)))) := Lib.hid (by
            rw [hex_next, ← hg, show 16 * k + m = k * 16 + m by omega, block_next zs k m HL.out hlt hmt])
          have hc2 : wr.cell? ⟨B, off + (16 * k + m), none⟩ = some (.int .i64 (z : Int)) := hc'
          have hnl : ¬ 9223372036854775807 < (bs (hexCat ((blockL zs k).take m))).size + (hex2 z).size := by
            rw [bs_size, hexCat_len, hex2_size]; simp; omega
          have HX := Lib.hid (fun W => l04Hex z hz W)
          generalize bs (hexCat ((blockL zs k).take m)) = t at HN hnl
          generalize hex2 z = u at HN hnl HX
          have e1 : IntKind.i64.wrap (16 * (k : Int)) = 16 * (k : Int) := IntWalk.i64_in _ (by omega)
          have e2 : IntKind.i64.wrap (16 * (k : Int) + (m : Int)) = 16 * (k : Int) + (m : Int) := IntWalk.i64_in _ (by omega)
          have e3 : (16 * (k : Int) + (m : Int)).toNat = 16 * k + m := by omega
          have e4 : 0 ≤ 16 * (k : Int) + (m : Int) := by omega
          have e5 : 16 * (k : Int) + (m : Int) < 256 := by omega
          clear hg hc'
          go_wp2_with fail
          refine (HX.out _).mono ?_
          rintro e w2 ⟨rfl, hb2⟩
          have hb3 := bt hbw hb2
          have G2 : Hid (GroS w2 (w.heap.size + 1) (.slice A' k c') (((List.range 16).map (pageB zs)).take k)) := Lib.hid (rowv_below G.out hb2)
          have X2 := Lib.hid (X.out.step hb2)
          have hsz2 := Nat.le_trans hsz hb2.size
          clear G X hsz f0 hc2 hbw
          go_wp2
          go_roundw
          case rel => first | exact ⟨m + 1, by omega, by rw [HN.out], by go_num, hb3, G2, X2, hsz2⟩ | ((repeat apply Exists.intro); exact ⟨⟨m + 1, by omega, by rw [HN.out], by go_num, hb3, G2, X2, hsz2⟩, rfl⟩)
          case measure => simp [intOf]; omega
        · obtain rfl : m = 16 := by omega
          have HF : Hid (bs (hexCat ((blockL zs k).take 16)) = pageB zs k) := Lib.hid (by
            unfold pageB; rw [List.take_of_length_le (by unfold blockL; simp; omega)])
          rw [HF.out]
          have HSt := Lib.hid (page_take zs k hlt)
          have HLk : Hid ((((List.range 16).map (pageB zs)).take k).length = k) := Lib.hid (by simp; omega)
          generalize pageB zs k = s at HSt
          generalize hfl : ((List.range 16).map (pageB zs)).take k = fl at G HSt HLk
          clear hfl HF
          have HRk : Hid (wr.ownsRow (w.heap.size + 1) 9 1 (.slice A' k c') k (fl.map Value.string)) := Lib.hid (by have := G.out; unfold GroS at this; rw [HLk.out] at this; exact this)
          have HBa : Hid (Below wr.heap.size wr (wr.alloc (.cells #[.string s] 9))) := Lib.hid (alloc_below _ _)
          have HOw := Lib.hid (rowv_below HRk.out HBa.out)
          have HNw : Hid (∀ i u, [Value.string s][i]? = some u → (wr.alloc (.cells #[.string s] 9)).cell? ⟨wr.heap.size, i, none⟩ = some u) := Lib.hid (fun i u hi => by
            match i, hi with
            | 0, hi => simp at hi; subst hi; exact (Box.new wr 9 #[.string s]).cell 0 rfl)
          go_wp2_with (at_builtin; refine wpList_app_one rfl (.tmp 28) (.tmp 30) 28 9 rfl (.string ByteArray.empty) 1 16 elemStr Try.underlying28 (w.heap.size + 1) (.slice A' k c') k (fl.map Value.string) rfl ?hown wr.heap.size 1 rfl [.string s] rfl ?hnews ?hone ?h63 ?hby ?hbase ?_)
          case hown => exact HOw.out
          case hnews => exact HNw.out
          case hone => intro u hu; simp at hu; subst hu; rfl
          case h63 => unfold maxLen; omega
          case hby => omega
          case hbase => exact Nat.le_trans hsz HBa.out.size
          intro A2 c2 w3 hR3 hc3 hg3 hb3
          have X3 := Lib.hid ((X.out.step HBa.out).below hb3 (by omega))
          have hbz : Below w.heap.size w w3 := (bt hbw HBa.out).trans (hb3.mono (by omega))
          have hsz3 : w.heap.size + 1 ≤ w3.heap.size := Nat.le_trans (Nat.le_trans hsz HBa.out.size) hb3.size
          have HR3 := Lib.hid hR3
          clear hR3 hc3 hg3 hb3 HOw HNw HBa HRk G X f0 hbw hsz
          obtain ⟨gb, goff, rfl, hgc⟩ := (HG.out.below hbz) k (by rw [HM.out]; exact hlt)
          obtain ⟨w4, hw4⟩ : ∃ w4, w4 = w3.alloc (.cells #[.string ⟨#[48]⟩, .string ⟨#[49]⟩] 9) := ⟨_, rfl⟩
          have hb4 : Below w3.heap.size w3 w4 := by rw [hw4]; exact alloc_below _ _
          have x1 : w4.cell? ⟨w.heap.size, 1, none⟩ = some (.slice (some ⟨gb, goff, none⟩) 16 d) := (X3.out.step hb4).cell 1 rfl
          have y1 : w4.cell? ⟨gb, goff + k, none⟩ = some (.bool (gs.getD k false)) := (hb4.cell (cell_lt hgc)).trans hgc
          have z0 : w4.cell? ⟨w3.heap.size, 0, none⟩ = some (.string ⟨#[48]⟩) := by rw [hw4]; exact (Box.new _ _ _).cell 0 rfl
          have z1 : w4.cell? ⟨w3.heap.size, 1, none⟩ = some (.string ⟨#[49]⟩) := by rw [hw4]; exact (Box.new _ _ _).cell 1 rfl
          have HW4 := Lib.hid hw4
          have hnl : ¬ 9223372036854775807 < lt.size + (1 : Nat) := by have := HGs.out; omega
          have HX4 := Lib.hid (X3.out.step hb4)
          have HR4 := Lib.hid (rowv_below HR3.out hb4)
          have hbq := bt hbz hb4
          have hszq := Nat.le_trans hsz3 hb4.size
          rw [hw4] at x1 y1
          clear X3 HR3 hgc hbz hsz3 hb4 hw4
          generalize gs.getD k false = x at y1 HGn
          cases x
          all_goals go_wp2_with fail
          all_goals rw [← HW4.out]
          all_goals (refine (l01BitB _ _).mono ?_)
          all_goals (rintro e w5 ⟨rfl, rfl⟩)
          all_goals go_wp2
          all_goals (refine ⟨⟨k + 1, A2, c2, by omega, rfl, by rw [← HGn.out]; rfl, by go_num, hbq, Lib.hid (by unfold GroS; rw [HSt.out, List.length_append, HLk.out, List.map_append]; exact HR4.out), HX4, hszq⟩, by simp [intOf]; omega⟩)
    · obtain rfl : k = 16 := by omega
      have HSt : Hid (pagesL zs gs = ((List.range 16).map (pageB zs)).take 16 ++ [bs ((gs.take 16).map gch)]) := Lib.hid (by unfold pagesL guardB; rw [List.take_of_length_le (by simp), List.take_of_length_le (by rw [HM.out]; omega)])
      have HLk : Hid ((((List.range 16).map (pageB zs)).take 16).length = 16) := Lib.hid (by simp)
      generalize bs ((gs.take 16).map gch) = s at HSt
      generalize hfl : ((List.range 16).map (pageB zs)).take 16 = fl at G HSt HLk
      clear hfl
      have HRk : Hid (wr.ownsRow (w.heap.size + 1) 9 1 (.slice A' 16 c') 16 (fl.map Value.string)) := Lib.hid (by have := G.out; unfold GroS at this; rw [HLk.out] at this; exact this)
      have HBa : Hid (Below wr.heap.size wr (wr.alloc (.cells #[.string s] 9))) := Lib.hid (alloc_below _ _)
      have HOw := Lib.hid (rowv_below HRk.out HBa.out)
      have HNw : Hid (∀ i u, [Value.string s][i]? = some u → (wr.alloc (.cells #[.string s] 9)).cell? ⟨wr.heap.size, i, none⟩ = some u) := Lib.hid (fun i u hi => by
        match i, hi with
        | 0, hi => simp at hi; subst hi; exact (Box.new wr 9 #[.string s]).cell 0 rfl)
      go_wp2_with (at_builtin; refine wpList_app_one rfl (.tmp 43) (.tmp 45) 28 9 rfl (.string ByteArray.empty) 1 16 elemStr Try.underlying28 (w.heap.size + 1) (.slice A' 16 c') 16 (fl.map Value.string) rfl ?hown wr.heap.size 1 rfl [.string s] rfl ?hnews ?hone ?h63 ?hby ?hbase ?_)
      case hown => exact HOw.out
      case hnews => exact HNw.out
      case hone => intro u hu; simp at hu; subst hu; rfl
      case h63 => unfold maxLen; omega
      case hby => omega
      case hbase => exact Nat.le_trans hsz HBa.out.size
      intro A2 c2 w3 hR3 hc3 hg3 hb3
      have hbz : Below w.heap.size w w3 := (bt hbw HBa.out).trans (hb3.mono (by omega))
      have HG3 : Hid (GroS w3 (w.heap.size + 1) (.slice A2 17 c2) (pagesL zs gs)) := Lib.hid (by unfold GroS; rw [HSt.out, List.length_append, HLk.out, List.map_append]; exact hR3)
      clear hR3 hc3 hg3 hb3 HOw HNw HBa HRk G X hbw hsz
      go_wp2
      go_ret
      exact ⟨A2, c2, rfl, Lib.hid (HG3.out.own (by omega)), hbz⟩

set_option maxRecDepth 100000 in
theorem specPagesOf (A C : Option Addr) (c d : Nat) (st : Int) (zs : List Int) (gs : List Bool) (w : World) (hok : okFlash zs gs st = true) (h : IntL w A zs) (g : BoolL w C gs) :
    Calls Try.prog 12 #[.agg #[.slice A 256 c, .slice C 16 d, .int .i64 st]] w fun e w' => ∃ A' c', e = .returned (.tuple #[.slice A' 17 c', .int .i64 0]) ∧ Hid (OwnS w' w.heap.size w'.heap.size A' (pagesL zs gs)) ∧ Below w.heap.size w w' := by
  obtain ⟨hl, hm, _⟩ := okRange hok
  have hb0 := alloc_below w (.cells #[.slice A 256 c, .slice C 16 d, .int .i64 st] 26)
  have HV := Lib.hid (fun W (hb : Below w.heap.size w W) => specFlashOK A C 256 c 16 d st zs gs W hl hm (by unfold maxLen; omega) (by unfold maxLen; omega) (h.below hb))
  rw [hok] at HV
  have HP := Lib.hid (fun W (hb : Below w.heap.size w W) => l04Pages A C c d st zs gs W hok (h.below hb) (g.below hb))
  have X0 := Lib.hid (Box.new w 26 #[.slice A 256 c, .slice C 16 d, .int .i64 st])
  generalize pagesL zs gs = rs at HP
  clear hok h g hl hm
  go_enter Try.func12, Try.ntmps12
  go_wp2_with fail
  refine (HV.out _ hb0).mono ?_
  rintro e w1 ⟨rfl, hb1⟩
  have X1 := Lib.hid (X0.out.step hb1)
  have hb2 := bt hb0 hb1
  have f0 := X1.out.cell 0 rfl
  have f1 := X1.out.cell 1 rfl
  have f2 := X1.out.cell 2 rfl
  go_wp2_with fail
  refine (HP.out _ hb2).mono ?_
  rintro e w3 ⟨A', c', rfl, O3, hb3⟩
  go_wp2
  refine bodyPost_ret (v := .tuple #[.slice A' 17 c', .int .i64 0]) (by simp [results, Try.results12, go_sem]) rfl ?_
  exact ⟨A', c', rfl, Lib.hid (O3.out.wide hb2.size (Nat.le_refl _)), bt hb2 hb3⟩
set_option maxRecDepth 100000 in
theorem specPagesOfBad (A C : Option Addr) (n c m d : Nat) (st : Int) (zs : List Int) (gs : List Bool) (w : World) (hl : zs.length = n) (hm : gs.length = m) (hn : n ≤ maxLen) (hmm : m ≤ maxLen) (hok : okFlash zs gs st = false) (h : IntL w A zs) :
    Calls Try.prog 12 #[.agg #[.slice A n c, .slice C m d, .int .i64 st]] w fun e w' => ∃ A', e = .returned (.tuple #[.slice A' 0 0, .int .i64 1]) ∧ Below w.heap.size w w' := by
  have hb0 := alloc_below w (.cells #[.slice A n c, .slice C m d, .int .i64 st] 26)
  have HV := Lib.hid (fun W (hb : Below w.heap.size w W) => specFlashOK A C n c m d st zs gs W hl hm hn hmm (h.below hb))
  rw [hok] at HV
  clear hok h hl hm hn hmm
  go_enter Try.func12, Try.ntmps12
  go_wp2_with fail
  refine (HV.out _ hb0).mono ?_
  rintro e w1 ⟨rfl, hb1⟩
  go_wp2
  refine bodyPost_ret (v := .tuple #[.slice (some ⟨w1.heap.size, 0, none⟩) 0 0, .int .i64 1]) (by simp [results, Try.results12, go_sem]) rfl ?_
  exact ⟨_, rfl, bt (bt hb0 hb1) (alloc_below _ _)⟩

/-- What PagesOf answers. -/
def pagesOf (zs : List Int) (gs : List Bool) (st : Int) : List ByteArray × Int := if okFlash zs gs st then (pagesL zs gs, 0) else ([], 1)
theorem pagesOf_len (zs : List Int) (gs : List Bool) (st : Int) : lenA [Lf.S (pagesOf zs gs st).1] ≤ 4294967296 := by
  unfold pagesOf
  split
  · simp [lenA, Lf.len, pages_len]
  · simp [lenA, Lf.len]
theorem ownS1 {w : World} {lo hi : Nat} {A : Option Addr} {n c : Nat} {ss : List ByteArray} (hl : ss.length = n) (h : OwnS w lo hi A ss) : OwnA w lo hi [.slice A n c] [.S ss] := OwnA.one ⟨A, c, by rw [hl], h⟩
section
variable (A0 A1 : Option Addr) (c0 c1 : Nat) (d0 : List Int) (d1 : List Bool) (d2 : Int) (w : World)
set_option maxRecDepth 100000 in
theorem implPagesOfA (h : RepA w [.slice A0 d0.length c0, .slice A1 d1.length c1] [.I d0, .B d1]) (cp : CapA [.slice A0 d0.length c0, .slice A1 d1.length c1]) (z : szA [.I d0, .B d1] ≤ 1048576) :
    Calls Try.prog 11 #[.agg #[.slice A0 d0.length c0, .slice A1 d1.length c1, .int .i64 d2]] w fun e w' => ∃ rA rc, e = .returned (.tuple #[.slice rA (pagesOf d0 d1 d2).1.length rc, .int .i64 (pagesOf d0 d1 d2).2]) ∧ Hid (OwnA w' w.heap.size w'.heap.size [.slice rA (pagesOf d0 d1 d2).1.length rc] [.S (pagesOf d0 d1 d2).1]) ∧ Below w.heap.size w w' := by
  cases hok : okFlash d0 d1 d2 with
  | true =>
    obtain ⟨hl, hm, _⟩ := okRange hok
    have hc : 256 ≤ c0 := by have := cp _ (List.mem_cons_self) A0 d0.length c0 rfl; omega
    have e : pagesOf d0 d1 d2 = (pagesL d0 d1, 0) := by unfold pagesOf; rw [if_pos hok]
    have h1 := repI h.1
    have h2 := repB h.2.1
    rw [e, hl, hm]
    refine (implPagesOf A0 A1 c0 c1 d2 d0 d1 w hok hc h1 h2).mono ?_
    rintro e w' ⟨A', c', rfl, O, _, hb⟩
    exact ⟨A', c', by rw [pages_len], Lib.hid (ownS1 rfl O.out), hb⟩
  | false =>
    have e : pagesOf d0 d1 d2 = ([], 1) := by unfold pagesOf; rw [if_neg (by rw [hok]; decide)]
    rw [e]
    simp only [szA, Lf.sz] at z
    refine (implPagesOfBad A0 A1 _ c0 _ c1 d2 d0 d1 w rfl rfl (by unfold maxLen; omega) (by unfold maxLen; omega) hok (repI h.1)).mono ?_
    rintro e w' ⟨rfl, hb⟩
    exact ⟨none, 0, rfl, Lib.hid (ownS1 rfl (.inl rfl)), hb⟩
set_option maxRecDepth 100000 in
theorem specPagesOfA (h : RepA w [.slice A0 d0.length c0, .slice A1 d1.length c1] [.I d0, .B d1]) (_cp : CapA [.slice A0 d0.length c0, .slice A1 d1.length c1]) (z : szA [.I d0, .B d1] ≤ 1048576) :
    Calls Try.prog 12 #[.agg #[.slice A0 d0.length c0, .slice A1 d1.length c1, .int .i64 d2]] w fun e w' => ∃ rA rc, e = .returned (.tuple #[.slice rA (pagesOf d0 d1 d2).1.length rc, .int .i64 (pagesOf d0 d1 d2).2]) ∧ Hid (OwnA w' w.heap.size w'.heap.size [.slice rA (pagesOf d0 d1 d2).1.length rc] [.S (pagesOf d0 d1 d2).1]) ∧ Below w.heap.size w w' := by
  cases hok : okFlash d0 d1 d2 with
  | true =>
    obtain ⟨hl, hm, _⟩ := okRange hok
    have e : pagesOf d0 d1 d2 = (pagesL d0 d1, 0) := by unfold pagesOf; rw [if_pos hok]
    have h1 := repI h.1
    have h2 := repB h.2.1
    rw [e, hl, hm]
    refine (specPagesOf A0 A1 c0 c1 d2 d0 d1 w hok h1 h2).mono ?_
    rintro e w' ⟨A', c', rfl, O, hb⟩
    exact ⟨A', c', by rw [pages_len], Lib.hid (ownS1 rfl O.out), hb⟩
  | false =>
    have e : pagesOf d0 d1 d2 = ([], 1) := by unfold pagesOf; rw [if_neg (by rw [hok]; decide)]
    rw [e]
    simp only [szA, Lf.sz] at z
    refine (specPagesOfBad A0 A1 _ c0 _ c1 d2 d0 d1 w rfl rfl (by unfold maxLen; omega) (by unfold maxLen; omega) hok (repI h.1)).mono ?_
    rintro e w' ⟨A', rfl, hb⟩
    exact ⟨A', 0, rfl, Lib.hid (ownS1 rfl (.inl rfl)), hb⟩
end
end Go.Proofs.Ythobepmlopegbaa

/- A flash's pages say the flash; a byte's digits say the byte. Nothing here walks. -/
namespace Go.Proofs.Ythobepmlopegbaa
open Go.RowKit

theorem dig_hx : ∀ k, k < 16 → digI hexL ((hx k).toNat : Int) = some k := by decide +kernel
theorem num_hex (n : Nat) (h : n ≤ 255) : readNum hexL 0 [hx (n / 16), hx (n % 16)] = some n := by
  show (match digI hexL ((hx (n / 16)).toNat : Int) with | none => none | some v => readNum hexL (0 * hexL.length + v) [hx (n % 16)]) = some n
  rw [dig_hx _ (by omega)]
  show (match digI hexL ((hx (n % 16)).toNat : Int) with | none => none | some u => readNum hexL ((0 * hexL.length + n / 16) * hexL.length + u) []) = some n
  rw [dig_hx _ (by omega)]
  show some ((0 * 16 + n / 16) * 16 + n % 16) = some n
  congr 1
  omega
theorem byte_hex (n : Nat) (h : n ≤ 255) : byteOf (hex2 n) = some n := by
  unfold byteOf
  rw [if_pos (hex2_size n)]
  exact num_hex n h
theorem nums_cat : ∀ (l : List Int), (∀ z ∈ l, 0 ≤ z ∧ z ≤ 255) → ∀ rest, pageNums hexL 2 l.length (hexCat l ++ rest) = some l
  | [], _, _ => rfl
  | z :: l, h, rest => by
    have hz := h z (by simp)
    have e : hexCat (z :: l) = hx (z.toNat / 16) :: hx (z.toNat % 16) :: hexCat l := by simp [hexCat]
    rw [List.length_cons, pageNums, e]
    simp only [List.cons_append, List.take_succ_cons, List.take_zero, List.drop_succ_cons, List.drop_zero]
    rw [num_hex z.toNat (by omega), nums_cat l (fun x hx => h x (by simp [hx])) rest]
    simp only [Option.map_some, Option.some.injEq, List.cons.injEq, and_true]
    omega
theorem page_hex (zs : List Int) (b : Nat) (hl : zs.length = 256) (hb : b < 16) (hz : ∀ z ∈ zs, 0 ≤ z ∧ z ≤ 255) : page2 hexL (pageB zs b) = some (blockL zs b) := by
  unfold page2 pageB
  have h1 := block_len zs b hl hb
  rw [if_pos (by rw [bs_size, hexCat_len, h1])]
  have := nums_cat (blockL zs b) (fun z h => hz z (List.mem_of_mem_drop (List.mem_of_mem_take h))) []
  rw [h1, List.append_nil] at this
  exact this
theorem cells_from (zs : List Int) (hl : zs.length = 256) (hz : ∀ z ∈ zs, 0 ≤ z ∧ z ≤ 255) : ∀ n j, j + n = 16 → cellsP ((List.range' j n).map (pageB zs)) = some (zs.drop (16 * j))
  | 0, j, h => by
    rw [List.range'_zero, List.map_nil, cellsP, List.drop_eq_nil_of_le (by omega)]
  | n + 1, j, h => by
    rw [List.range'_succ, List.map_cons, cellsP, page_hex zs j hl (by omega) hz, cells_from zs hl hz n (j + 1) (by omega)]
    simp only [Option.map_some, Option.some.injEq]
    unfold blockL
    rw [show 16 * (j + 1) = 16 * j + 16 by omega, ← List.drop_drop, List.take_append_drop]
theorem cells_pages (zs : List Int) (gs : List Bool) (hl : zs.length = 256) (hz : ∀ z ∈ zs, 0 ≤ z ∧ z ≤ 255) : cellsP ((pagesL zs gs).take 16) = some zs := by
  unfold pagesL
  rw [List.take_left' (by simp), List.range_eq_range', cells_from zs hl hz 16 0 rfl, Nat.mul_zero, List.drop_zero]
theorem num_bin (g : Bool) : readNum binL 0 [gch g] = some (if g then 1 else 0) := by cases g <;> decide
theorem nums_bin : ∀ (l : List Bool), pageNums binL 1 l.length (l.map gch) = some (l.map fun g => if g then 1 else 0)
  | [] => rfl
  | g :: l => by
    rw [List.length_cons, pageNums, List.map_cons]
    simp only [List.take_succ_cons, List.take_zero, List.drop_succ_cons, List.drop_zero]
    rw [num_bin g, nums_bin l]
    cases g <;> rfl
theorem guard_back (gs : List Bool) (h : gs.length = 16) : guardP (guardB gs) = some gs := by
  unfold guardP page1 guardB
  rw [if_pos (by rw [bs_size, List.length_map, h])]
  have := nums_bin gs
  rw [h] at this
  show Option.map _ (pageNums binL 1 16 (gs.map gch)) = _
  rw [this]
  simp only [Option.map_some, List.map_map, Option.some.injEq]
  have : ((fun z => decide (z = (1 : Int))) ∘ fun g : Bool => if g then (1 : Int) else 0) = id := by
    funext g; cases g <;> rfl
  rw [this, List.map_id]
theorem pages_last (zs : List Int) (gs : List Bool) : (pagesL zs gs).getD 16 ByteArray.empty = guardB gs := by
  unfold pagesL
  rw [List.getD_eq_getElem?_getD, List.getElem?_append_right (by simp)]
  simp
theorem pages_ok (zs : List Int) (gs : List Bool) (hl : zs.length = 256) (hm : gs.length = 16) : pagesC (pagesL zs gs) = 0 := by
  unfold pagesC
  rw [pages_len, if_neg (by omega), if_neg (by omega), if_pos]
  rw [List.all_eq_true]
  intro s hs
  unfold pagesL at hs
  rcases List.mem_append.1 hs with h | h
  · obtain ⟨b, hb, rfl⟩ := List.mem_map.1 h
    have hb' : b < 16 := by simpa using hb
    unfold okSt pageB
    rw [bs_size, hexCat_len, block_len zs b hl hb']
    decide
  · rw [List.mem_singleton] at h
    subst h
    unfold okSt guardB
    rw [bs_size, List.length_map, hm]
    decide
/-- Chapter 5: what PagesOf writes FlashOf reads. -/
theorem image_back (zs : List Int) (gs : List Bool) (st : Int) (h : okFlash zs gs st = true) : flashOf (pagesL zs gs) = (zs, gs, 0) := by
  obtain ⟨hl, hm, hz⟩ := okRange h
  unfold flashOf
  rw [if_neg (by rw [pages_ok zs gs hl hm]; decide), cells_pages zs gs hl hz, pages_last, guard_back gs hm]
end Go.Proofs.Ythobepmlopegbaa

/- laws.at, told exactly; laws.sameTexts. -/
namespace Go.Proofs.Ythobepmlopegbaa
open Go.RowKit

/-- The i-th choice out of N that these bytes make. -/
def atOf (zs : List Nat) (i N : Nat) : Nat := if zs.length = 0 then i * 7 % N else (zs.getD (i % zs.length) 0 * 31 + zs.getD ((i + 1) % zs.length) 0 + i / zs.length) % N
theorem atOf_lt (zs : List Nat) (i N : Nat) (h : 0 < N) : atOf zs i N < N := by unfold atOf; split <;> exact Nat.mod_lt _ h

set_option maxRecDepth 100000 in
set_option maxHeartbeats 4000000 in
theorem lawAtE (i N : Nat) (A : Option Addr) (n c : Nat) (zs : List Nat) (w : World) (hi : i ≤ 1000) (hN : 2 ≤ N) (hN2 : N ≤ 1000) (hn : n ≤ 1048576) (hl : zs.length = n) (h : ByB w w.heap.size A zs) :
    Calls Try.prog 17 #[.slice A n c, .int .i64 (i : Nat), .int .i64 (N : Nat)] w fun e w' => e = .returned (.int .i64 (atOf zs i N : Nat)) ∧ Below w.heap.size w w' := by
  have h1 : ¬ (N : Int) ≤ 1 := by omega
  have h3 : ¬ (N : Int) = 0 := by omega
  have hi0 : (0 : Int) ≤ (i : Int) := by omega
  by_cases h0 : n = 0
  · have h0' : (n : Int) = 0 := by omega
    have HA : Hid (atOf zs i N = i * 7 % N) := Lib.hid (by unfold atOf; rw [if_pos (by omega)])
    have u1 : (0 : Int) ≤ (i : Int) * 7 := by omega
    clear h hl
    go_enter Try.func17, Try.ntmps17
    go_wp2
    have e1 : (i : Int) * 7 % (N : Int) = ((i * 7 % N : Nat) : Int) := by simp
    rw [e1]
    refine bodyPost_ret (v := .int .i64 ((i * 7 % N : Nat) : Int)) (by simp [results, Try.results17, go_sem]) rfl ?_
    exact ⟨by rw [HA.out], Below.refl _ _⟩
  · have h0' : ¬ (n : Int) = 0 := by omega
    have HA : Hid (atOf zs i N = (zs.getD (i % n) 0 * 31 + zs.getD ((i + 1) % n) 0 + i / n) % N) := Lib.hid (by unfold atOf; rw [if_neg (by omega), hl])
    obtain ⟨b, off, rfl, hb, hc, hv⟩ := h (i % n) (by rw [hl]; exact Nat.mod_lt _ (by omega))
    obtain ⟨b', off', eA, _, hc', hv'⟩ := h ((i + 1) % n) (by rw [hl]; exact Nat.mod_lt _ (by omega))
    injection eA with eA; injection eA with e1 e2; subst e1 e2
    generalize zs.getD (i % n) 0 = x at hc hv HA
    generalize zs.getD ((i + 1) % n) 0 = y at hc' hv' HA
    obtain ⟨p, hp⟩ : ∃ p, p = i % n := ⟨_, rfl⟩
    obtain ⟨q, hq⟩ : ∃ q, q = (i + 1) % n := ⟨_, rfl⟩
    obtain ⟨r, hr⟩ : ∃ r, r = i / n := ⟨_, rfl⟩
    rw [← hp] at hc
    rw [← hq] at hc'
    have t1 : (i : Int).tmod (n : Int) = (p : Int) := by rw [Int.tmod_eq_emod_of_nonneg (by omega), hp]; simp
    have t2 : ((i : Int) + 1).tmod (n : Int) = (q : Int) := by rw [Int.tmod_eq_emod_of_nonneg (by omega), hq]; simp
    have t3 : (i : Int).tdiv (n : Int) = (r : Int) := by rw [Int.tdiv_eq_ediv_of_nonneg (by omega), hr]; simp
    have hp1 : (p : Int) < (n : Int) := by have := Nat.mod_lt i (show 0 < n by omega); omega
    have hq1 : (q : Int) < (n : Int) := by have := Nat.mod_lt (i + 1) (show 0 < n by omega); omega
    have hr1 : r ≤ 1000 := by rw [hr]; exact Nat.le_trans (Nat.div_le_self _ _) hi
    rw [← hr] at HA
    clear hp hq hr h hl
    have t1' : (i : Int) % (n : Int) = (p : Int) := by rw [← t1, Int.tmod_eq_emod_of_nonneg (by omega)]
    have t2' : ((i : Int) + 1) % (n : Int) = (q : Int) := by rw [← t2, Int.tmod_eq_emod_of_nonneg (by omega)]
    have t3' : (i : Int) / (n : Int) = (r : Int) := by rw [← t3, Int.tdiv_eq_ediv_of_nonneg (by omega)]
    have u0 : IntKind.i64.wrap ((i : Int) + 1) = (i : Int) + 1 := IntWalk.i64_in _ ⟨by omega, by omega⟩
    have u1 : IntKind.i64.wrap (p : Int) = (p : Int) := IntWalk.i64_in _ ⟨by omega, by omega⟩
    have u2 : IntKind.i64.wrap (q : Int) = (q : Int) := IntWalk.i64_in _ ⟨by omega, by omega⟩
    have u3 : IntKind.i64.wrap (r : Int) = (r : Int) := IntWalk.i64_in _ ⟨by omega, by omega⟩
    have u4 : IntKind.i64.wrap (x : Int) = (x : Int) := IntWalk.i64_in _ ⟨by omega, by omega⟩
    have u5 : IntKind.i64.wrap (y : Int) = (y : Int) := IntWalk.i64_in _ ⟨by omega, by omega⟩
    have u6 : IntKind.i64.wrap ((x : Int) * 31) = (x : Int) * 31 := IntWalk.i64_in _ ⟨by omega, by omega⟩
    have u7 : IntKind.i64.wrap ((x : Int) * 31 + (y : Int)) = (x : Int) * 31 + (y : Int) := IntWalk.i64_in _ ⟨by omega, by omega⟩
    have u8 : IntKind.i64.wrap ((x : Int) * 31 + (y : Int) + (r : Int)) = (x : Int) * 31 + (y : Int) + (r : Int) := IntWalk.i64_in _ ⟨by omega, by omega⟩
    obtain ⟨z, hz⟩ : ∃ z, z = (x * 31 + y + r) % N := ⟨_, rfl⟩
    have HA2 : Hid (atOf zs i N = z) := Lib.hid (by rw [HA.out, hz])
    have hz1 : z < N := by rw [hz]; exact Nat.mod_lt _ (by omega)
    have t4' : ((x : Int) * 31 + (y : Int) + (r : Int)) % (N : Int) = (z : Int) := by rw [hz]; simp
    have t4 : ((x : Int) * 31 + (y : Int) + (r : Int)).tmod (N : Int) = (z : Int) := by rw [Int.tmod_eq_emod_of_nonneg (by omega), t4']
    have u9 : IntKind.i64.wrap (z : Int) = (z : Int) := IntWalk.i64_in _ ⟨by omega, by omega⟩
    clear hz
    go_enter Try.func17, Try.ntmps17
    go_wp2
    go_quiet (fail)
    go_wp2
    refine bodyPost_ret (v := .int .i64 (z : Int)) (by simp [results, Try.results17, go_sem]) rfl ?_
    exact ⟨by rw [HA2.out], below_drewN (Below.refl _ _) _⟩

set_option maxRecDepth 100000 in
set_option maxHeartbeats 2000000 in
theorem sameTexts (A A' : Option Addr) (n c c' : Nat) (ss : List ByteArray) (w : World) (hl : ss.length = n) (hn : n ≤ 1048576) (h : StrL w A ss) (h' : StrL w A' ss) :
    Calls Try.prog 19 #[.slice A n c, .slice A' n c'] w fun e w' => e = .returned (.bool true) ∧ Below w.heap.size w w' := by
  have HL := Lib.hid hl
  have H := Lib.hid h
  have H' := Lib.hid h'
  clear hl h h'
  have hb : ((n : Int) != (n : Int)) = false := by simp
  go_enter Try.func19, Try.ntmps19
  go_wp2
  go_loopw [5] (fun i wr => ∃ k : Nat, k ≤ n ∧ i = .int .i64 k ∧ Below w.heap.size w wr) (fun i _ => n - (intOf i).toNat)
  case atStart => exact ⟨0, Nat.zero_le _, rfl, Below.refl _ _⟩
  case round =>
    obtain ⟨k, hk, rfl, hbw⟩ := hrel
    by_cases hlt : k < n
    · obtain ⟨b, off, rfl, hc⟩ := (H.out.below hbw) k (by rw [HL.out]; exact hlt)
      obtain ⟨b', off', rfl, hc'⟩ := (H'.out.below hbw) k (by rw [HL.out]; exact hlt)
      generalize ss.getD k ByteArray.empty = x at hc hc'
      have hi : (k : Int) < (n : Int) := by omega
      have hq1 : (x.toList == x.toList) = true := by simp
      go_wp2
      go_quiet (fail)
      go_wp2
      go_roundw
      case rel => exact ⟨k + 1, by omega, by go_num, below_drewN hbw _⟩
      case measure => simp [intOf]; omega
    · go_wp2
      go_ret
      exact ⟨rfl, hbw⟩

end Go.Proofs.Ythobepmlopegbaa

/- The model's l03Guard and l03Erase. -/
namespace Go.Proofs.Ythobepmlopegbaa
open Go.RowKit

set_option maxRecDepth 100000 in
set_option maxHeartbeats 4000000 in
theorem l03Guard (A C : Option Addr) (n c m d k : Nat) (st : Int) (zs : List Int) (gs : List Bool) (w : World) (hl : zs.length = n) (hm : gs.length = m) (hn : n = 256) (hmm : m = 16) (hk : k < 16) (h : IntL w A zs) (g : BoolL w C gs) :
    Calls Try.prog 83 #[.agg #[.slice A n c, .slice C m d, .int .i64 st], .int .i64 k] w (GivesFlash zs (gs.set k true) st w) := by
  obtain ⟨W0, hW0⟩ : ∃ W0, W0 = ((w.alloc (.cells #[.slice A n c, .slice C m d, .int .i64 st] 26)).alloc (.cells #[.slice none 0 0, .slice none 0 0, .int .i64 0] 26)) := ⟨_, rfl⟩
  have hb0 : Below w.heap.size w W0 := by rw [hW0]; exact bt (alloc_below _ _) (alloc_below _ _)
  have X0 : Box W0 w.heap.size 26 #[.slice A n c, .slice C m d, .int .i64 st] := by rw [hW0]; exact (Box.new _ _ _).alloc _
  have Y0 : Box W0 (w.heap.size + 1) 26 #[.slice none 0 0, .slice none 0 0, .int .i64 0] := by rw [hW0]; simpa using Box.new (w.alloc (.cells #[.slice A n c, .slice C m d, .int .i64 st] 26)) 26 #[.slice none 0 0, .slice none 0 0, .int .i64 0]
  have HO := Lib.hid (l03Own A C n c m d st zs gs W0 hl hm hn hmm (h.below hb0) (g.below hb0))
  have HLen : Hid (zs.length = 256 ∧ gs.length = 16) := Lib.hid ⟨by omega, by omega⟩
  have HX := Lib.hid (And.intro X0 Y0)
  have HW0 := Lib.hid hW0
  clear hl hm h g hW0 X0 Y0 hn hmm
  have hki : (k : Int) < 16 := by omega
  go_enter Try.func83, Try.ntmps83
  go_wp2_with fail
  rw [← HW0.out]
  refine HO.out.mono ?_
  rintro e w1 ⟨A1, n1, c1, C1, m1, d1, rfl, L1, M1, S1, R1, hb1⟩
  obtain rfl : n1 = 256 := by have := L1.out; have := HLen.out; omega
  obtain rfl : m1 = 16 := by have := M1.out; have := HLen.out; omega
  have X1 := HX.out.1.step hb1
  have Y1 := HX.out.2.step hb1
  have a0 := X1.cell 0 rfl
  have a1 := X1.cell 1 rfl
  have a2 := X1.cell 2 rfl
  have a0z := X1.frozen 0
  have a1z := X1.frozen 1
  have a2z := X1.frozen 2
  obtain ⟨w2, hw2⟩ : ∃ w2, w2 = ((w1.setCell ⟨w.heap.size, 0, none⟩ (.slice A1 256 c1)).setCell ⟨w.heap.size, 1, none⟩ (.slice C1 16 d1)).setCell ⟨w.heap.size, 2, none⟩ (.int .i64 st) := ⟨_, rfl⟩
  have X2 : Box w2 w.heap.size 26 #[.slice A1 256 c1, .slice C1 16 d1, .int .i64 st] := by rw [hw2]; exact X1.flash3 rfl _ _ _
  have Y2 : Box w2 (w.heap.size + 1) 26 #[.slice none 0 0, .slice none 0 0, .int .i64 0] := by rw [hw2]; exact Y1.far3 (by omega) _ _ _
  have S2 : Hid (OwnI w2 w.heap.size w2.heap.size A1 zs) := Lib.hid (by rw [hw2]; exact (S1.out.far3 X1 _ _ _).wideB hb0.size (by rw [size3]; exact Nat.le_refl _))
  have R2 : Hid (OwnB w2 w.heap.size w2.heap.size C1 gs) := Lib.hid (by rw [hw2]; exact (R1.out.far3 X1 _ _ _).wide hb0.size (by rw [size3]; exact Nat.le_refl _))
  have hb2 : Below w.heap.size w w2 := by rw [hw2]; exact below3 (bt hb0 hb1) (Nat.le_refl _) _ _ _
  obtain ⟨bg, mg, fg, rfl, hcg, hfg, hlo, hhi, hrg, hput⟩ := R2.out.put k (by have := HLen.out; omega)
  generalize gs.getD k false = q at hcg
  have HPut := Lib.hid (And.intro hlo hput)
  have X3 := X2.other hrg (by decide) k (.bool true)
  have Y3 := Y2.other hrg (by decide) k (.bool true)
  have S3 := Lib.hid (S2.out.other hrg (by decide) k (.bool true))
  have x0 := X2.cell 0 rfl
  have x1 := X2.cell 1 rfl
  have u0 := X3.cell 0 rfl
  have u1 := X3.cell 1 rfl
  have u2 := X3.cell 2 rfl
  have t0 := Y3.cell 0 rfl
  have t1 := Y3.cell 1 rfl
  have t2 := Y3.cell 2 rfl
  have t0z := Y3.frozen 0
  have t1z := Y3.frozen 1
  have t2z := Y3.frozen 2
  have HYs := Lib.hid Y3
  have HB2 := Lib.hid (And.intro hb2 hw2)
  rw [hw2] at hcg hfg x0 x1 u0 u1 u2 t0 t1 t2 t0z t1z t2z
  clear X1 Y1 S1 R1 hb0 hb1 hw2 X2 Y2 hb2 hlo hhi hrg hput X3 Y3 HO HX HW0 fg
  go_wp2
  refine bodyPost_ret (v := .agg #[.slice A1 256 c1, .slice (some ⟨bg, 0, none⟩) 16 d1, .int .i64 st]) (by simp [results, Try.results83, go_sem, t0, t1, t2]) rfl ?_
  rw [← HB2.out.2]
  refine ⟨_, _, _, _, _, _, rfl, Lib.hid HLen.out.1, Lib.hid (by rw [List.length_set]; exact HLen.out.2), Lib.hid ?_, Lib.hid ?_, ?_⟩
  · exact (S3.out.far3 HYs.out _ _ _).wideB (Nat.le_refl _) (by rw [size3]; simp [World.setCell])
  · exact ((HPut.out.2 true).far3 HYs.out _ _ _).wide (Nat.le_refl _) (by rw [size3]; simp [World.setCell])
  · exact below3 (HB2.out.1.setCell (p := ⟨bg, k, none⟩) HPut.out.1 _) (by omega) _ _ _

set_option maxRecDepth 100000 in
set_option maxHeartbeats 4000000 in
theorem l03Erase (A C : Option Addr) (n c m d k : Nat) (st : Int) (zs : List Int) (gs : List Bool) (w : World) (hl : zs.length = n) (hm : gs.length = m) (hn : n = 256) (hmm : m = 16) (hk : k < 16) (h : IntL w A zs) (g : BoolL w C gs) :
    Calls Try.prog 85 #[.agg #[.slice A n c, .slice C m d, .int .i64 st], .int .i64 k] w (GivesFlash (eraseL zs gs k) gs st w) := by
  obtain ⟨W0, hW0⟩ : ∃ W0, W0 = ((w.alloc (.cells #[.slice A n c, .slice C m d, .int .i64 st] 26)).alloc (.cells #[.slice none 0 0, .slice none 0 0, .int .i64 0] 26)) := ⟨_, rfl⟩
  have hb0 : Below w.heap.size w W0 := by rw [hW0]; exact bt (alloc_below _ _) (alloc_below _ _)
  have X0 : Box W0 w.heap.size 26 #[.slice A n c, .slice C m d, .int .i64 st] := by rw [hW0]; exact (Box.new _ _ _).alloc _
  have Y0 : Box W0 (w.heap.size + 1) 26 #[.slice none 0 0, .slice none 0 0, .int .i64 0] := by rw [hW0]; simpa using Box.new (w.alloc (.cells #[.slice A n c, .slice C m d, .int .i64 st] 26)) 26 #[.slice none 0 0, .slice none 0 0, .int .i64 0]
  have HO := Lib.hid (l03Own A C n c m d st zs gs W0 hl hm hn hmm (h.below hb0) (g.below hb0))
  have HLen : Hid (zs.length = 256 ∧ gs.length = 16) := Lib.hid ⟨by omega, by omega⟩
  have HE : Hid (∀ q, gs.getD k false = q → eraseL zs gs k = if q then zs else fillR zs (k * 16) (k * 16 + 16)) := Lib.hid (by intro q hq; unfold eraseL; rw [hq])
  generalize eraseL zs gs k = r at HE
  have HX := Lib.hid (And.intro X0 Y0)
  have HW0 := Lib.hid hW0
  clear hl hm h g hW0 X0 Y0 hn hmm
  have hki : (k : Int) < 16 := by omega
  go_enter Try.func85, Try.ntmps85
  go_wp2_with fail
  rw [← HW0.out]
  refine HO.out.mono ?_
  rintro e w1 ⟨A1, n1, c1, C1, m1, d1, rfl, L1, M1, S1, R1, hb1⟩
  obtain rfl : n1 = 256 := by have := L1.out; have := HLen.out; omega
  obtain rfl : m1 = 16 := by have := M1.out; have := HLen.out; omega
  have X1 := HX.out.1.step hb1
  have Y1 := HX.out.2.step hb1
  have a0 := X1.cell 0 rfl
  have a1 := X1.cell 1 rfl
  have a2 := X1.cell 2 rfl
  have a0z := X1.frozen 0
  have a1z := X1.frozen 1
  have a2z := X1.frozen 2
  obtain ⟨w2, hw2⟩ : ∃ w2, w2 = ((w1.setCell ⟨w.heap.size, 0, none⟩ (.slice A1 256 c1)).setCell ⟨w.heap.size, 1, none⟩ (.slice C1 16 d1)).setCell ⟨w.heap.size, 2, none⟩ (.int .i64 st) := ⟨_, rfl⟩
  have X2 : Hid (Box w2 w.heap.size 26 #[.slice A1 256 c1, .slice C1 16 d1, .int .i64 st]) := Lib.hid (by rw [hw2]; exact X1.flash3 rfl _ _ _)
  have Y2 : Hid (Box w2 (w.heap.size + 1) 26 #[.slice none 0 0, .slice none 0 0, .int .i64 0]) := Lib.hid (by rw [hw2]; exact Y1.far3 (by omega) _ _ _)
  have S2 : Hid (OwnI w2 w.heap.size w2.heap.size A1 zs) := Lib.hid (by rw [hw2]; exact (S1.out.far3 X1 _ _ _).wideB hb0.size (by rw [size3]; exact Nat.le_refl _))
  have R2 : Hid (OwnB w2 w.heap.size w2.heap.size C1 gs) := Lib.hid (by rw [hw2]; exact (R1.out.far3 X1 _ _ _).wide hb0.size (by rw [size3]; exact Nat.le_refl _))
  have hb2 : Below w.heap.size w w2 := by rw [hw2]; exact below3 (bt hb0 hb1) (Nat.le_refl _) _ _ _
  have HW2 := Lib.hid hw2
  clear X1 Y1 S1 R1 hb0 hb1 hw2 HO HX HW0
  go_wp2
  rw [← HW2.out]
  clear a0 a1 a2 a0z a1z a2z HW2
  go_loopw [5] (fun i wr => ∃ j : Nat, j ≤ 16 ∧ i = .int .i64 j ∧ Hid (gs.getD k false = true → j = 0) ∧ Below w.heap.size w wr ∧ Hid (Box wr w.heap.size 26 #[.slice A1 256 c1, .slice C1 16 d1, .int .i64 st]) ∧ Hid (Box wr (w.heap.size + 1) 26 #[.slice none 0 0, .slice none 0 0, .int .i64 0]) ∧ Hid (OwnI wr w.heap.size wr.heap.size A1 (fillR zs (k * 16) (k * 16 + j))) ∧ Hid (OwnB wr w.heap.size wr.heap.size C1 gs)) (fun i _ => 16 - (intOf i).toNat)
  case atStart => exact ⟨0, by omega, rfl, Lib.hid (fun _ => rfl), hb2, X2, Y2, Lib.hid (by rw [Nat.add_zero, fillR_none]; exact S2.out), R2⟩
  case round =>
    clear hb2 X2 Y2 S2 R2
    obtain ⟨j, hj, rfl, HJ, hbw, X, Y, S, R⟩ := hrel
    have x0 := X.out.cell 0 rfl
    have x1 := X.out.cell 1 rfl
    have x2 := X.out.cell 2 rfl
    have y0 := Y.out.cell 0 rfl
    have y1 := Y.out.cell 1 rfl
    have y2 := Y.out.cell 2 rfl
    have y0z := Y.out.frozen 0
    have y1z := Y.out.frozen 1
    have y2z := Y.out.frozen 2
    obtain ⟨bg, mg, fg, rfl, hcg, -, -, -, -, -⟩ := R.out.put k (by have := HLen.out; omega)
    have HE2 := Lib.hid (HE.out _ rfl)
    generalize gs.getD k false = q at hcg HE2 HJ
    cases q
    · by_cases hlt : j < 16
      · obtain ⟨ba, ma, fa, rfl, hca, hfa, hlo, hhi, hra, hput⟩ := S.out.put (k * 16 + j) (by rw [fillR_len]; have := HLen.out; omega)
        generalize (fillR zs (k * 16) (k * 16 + j)).getD (k * 16 + j) 0 = z at hca
        have hq := hput 255
        rw [fillR_next _ _ _ (by omega) (by have := HLen.out; omega)] at hq
        have HQ := Lib.hid hq
        have HX := Lib.hid (X.out.other hra (by decide) (k * 16 + j) (.int .i64 255))
        have HY := Lib.hid (Y.out.other hra (by decide) (k * 16 + j) (.int .i64 255))
        have HR := Lib.hid (R.out.other hra (by decide) (k * 16 + j) (.int .i64 255))
        have hb' : Below w.heap.size w (wr.setCell ⟨ba, k * 16 + j, none⟩ (.int .i64 255)) := hbw.setCell (p := ⟨ba, k * 16 + j, none⟩) hlo _
        have hi : (j : Int) < 16 := by omega
        have hidx : (k : Int) * 16 + (j : Int) < 256 := by omega
        clear hq hput hra hlo hhi X Y S R fa fg HE2 hbw
        go_wp2
        go_roundw
        case rel => exact ⟨j + 1, by omega, by go_num, Lib.hid (fun e => by cases e), hb', HX, HY, Lib.hid (HQ.out.wideB (Nat.le_refl _) (by simp [World.setCell])), Lib.hid (HR.out.wide (Nat.le_refl _) (by simp [World.setCell]))⟩
        case measure => simp [intOf]; omega
      · obtain rfl : j = 16 := by omega
        have HEr : Hid (r = fillR zs (k * 16) (k * 16 + 16)) := Lib.hid (by rw [HE2.out]; rfl)
        clear HE2 HE HJ
        go_wp2
        refine bodyPost_ret (v := .agg #[.slice A1 256 c1, .slice (some ⟨bg, 0, none⟩) 16 d1, .int .i64 st]) (by simp [results, Try.results85, go_sem, y0, y1, y2]) rfl ?_
        rw [HEr.out]
        refine ⟨_, _, _, _, _, _, rfl, Lib.hid (by rw [fillR_len]; exact HLen.out.1), Lib.hid HLen.out.2, Lib.hid ?_, Lib.hid ?_, ?_⟩
        · exact (S.out.far3 Y.out _ _ _).wideB (Nat.le_refl _) (by rw [size3]; exact Nat.le_refl _)
        · exact (R.out.far3 Y.out _ _ _).wide (Nat.le_refl _) (by rw [size3]; exact Nat.le_refl _)
        · exact below3 hbw (by omega) _ _ _
    · obtain rfl : j = 0 := HJ.out rfl
      have HEr : Hid (r = zs) := Lib.hid (by rw [HE2.out]; rfl)
      have S' : Hid (OwnI wr w.heap.size wr.heap.size A1 zs) := Lib.hid (by have := S.out; rwa [Nat.add_zero, fillR_none] at this)
      clear HE2 HE HJ S
      go_wp2
      refine bodyPost_ret (v := .agg #[.slice A1 256 c1, .slice (some ⟨bg, 0, none⟩) 16 d1, .int .i64 st]) (by simp [results, Try.results85, go_sem, y0, y1, y2]) rfl ?_
      rw [HEr.out]
      refine ⟨_, _, _, _, _, _, rfl, Lib.hid HLen.out.1, Lib.hid HLen.out.2, Lib.hid ?_, Lib.hid ?_, ?_⟩
      · exact (S'.out.far3 Y.out _ _ _).wideB (Nat.le_refl _) (by rw [size3]; exact Nat.le_refl _)
      · exact (R.out.far3 Y.out _ _ _).wide (Nat.le_refl _) (by rw [size3]; exact Nat.le_refl _)
      · exact below3 hbw (by omega) _ _ _
end Go.Proofs.Ythobepmlopegbaa

/- What the functions that hand back a flash and a code answer; the model's ProgramCell, EraseBlock, GuardBlock. -/
namespace Go.Proofs.Ythobepmlopegbaa
open Go.RowKit

def gate (cd : Int) (zs : List Int) (gs : List Bool) (st : Int) : List Int × List Bool × Int × Int := if cd = 0 then (zs, gs, st, 0) else ([], [], 0, cd)
def progOf (zs : List Int) (gs : List Bool) (st a v : Int) := gate (codeIf (okFlash zs gs st) (byB a && byB v)) (progL zs gs a.toNat v.toNat) gs st
def eraseOf (zs : List Int) (gs : List Bool) (st a : Int) := gate (codeIf (okFlash zs gs st) (blkB a)) (eraseL zs gs a.toNat) gs st
def guardOf (zs : List Int) (gs : List Bool) (st a : Int) := gate (codeIf (okFlash zs gs st) (blkB a)) zs (gs.set a.toNat true) st
theorem codeIf_ok {f ok : Bool} (h : codeIf f ok = 0) : f = true ∧ ok = true := by unfold codeIf at h; cases f <;> cases ok <;> simp_all
theorem gate_bound {f ok : Bool} {zs : List Int} {gs : List Bool} {st : Int} (h : f = true → zs.length ≤ 1048576 ∧ gs.length ≤ 1048576) : (gate (codeIf f ok) zs gs st).1.length ≤ 1048576 ∧ (gate (codeIf f ok) zs gs st).2.1.length ≤ 1048576 := by
  unfold gate
  by_cases q : codeIf f ok = 0
  · rw [if_pos q]; exact h (codeIf_ok q).1
  · rw [if_neg q]; simp
theorem progOf_bound (zs : List Int) (gs : List Bool) (st a v : Int) : (progOf zs gs st a v).1.length ≤ 1048576 ∧ (progOf zs gs st a v).2.1.length ≤ 1048576 := gate_bound (fun h => by have := okFlash_len h; rw [progL_len]; omega)
theorem eraseOf_bound (zs : List Int) (gs : List Bool) (st a : Int) : (eraseOf zs gs st a).1.length ≤ 1048576 ∧ (eraseOf zs gs st a).2.1.length ≤ 1048576 := gate_bound (fun h => by have := okFlash_len h; rw [eraseL_len]; omega)
theorem guardOf_bound (zs : List Int) (gs : List Bool) (st a : Int) : (guardOf zs gs st a).1.length ≤ 1048576 ∧ (guardOf zs gs st a).2.1.length ≤ 1048576 := gate_bound (fun h => by have := okFlash_len h; rw [List.length_set]; omega)
theorem progL_range {zs : List Int} {gs : List Bool} {k v : Nat} (h : ∀ z ∈ zs, 0 ≤ z ∧ z ≤ 255) (hv : v < 256) : ∀ z ∈ progL zs gs k v, 0 ≤ z ∧ z ≤ 255 := by
  intro z hz
  unfold progL at hz
  split at hz
  · exact h z hz
  · rcases List.mem_or_eq_of_mem_set hz with q | rfl
    · exact h z q
    · have := and_lt v (zs.getD k 0).toNat hv
      rw [Nat.and_comm] at this
      omega
theorem fillR_range {zs : List Int} (h : ∀ z ∈ zs, 0 ≤ z ∧ z ≤ 255) (a b : Nat) : ∀ z ∈ fillR zs a b, 0 ≤ z ∧ z ≤ 255 := by
  intro z hz
  unfold fillR at hz
  obtain ⟨i, hi, rfl⟩ := List.mem_map.1 hz
  have hi' : i < zs.length := by simpa using hi
  split
  · omega
  · exact h _ (by rw [List.getD_eq_getElem?_getD, List.getElem?_eq_getElem hi']; exact List.getElem_mem _)
theorem eraseL_range {zs : List Int} {gs : List Bool} {b : Nat} (h : ∀ z ∈ zs, 0 ≤ z ∧ z ≤ 255) : ∀ z ∈ eraseL zs gs b, 0 ≤ z ∧ z ≤ 255 := by
  intro z hz
  unfold eraseL at hz
  split at hz
  · exact h z hz
  · exact fillR_range h _ _ z hz
def GivesOf (r : List Int × List Bool × Int × Int) (w : World) (e : Ending) (w' : World) : Prop := GivesFlashCode r.1 r.2.1 r.2.2.1 r.2.2.2 w e w'

end Go.Proofs.Ythobepmlopegbaa

/- The contract of chip.cycle. -/
namespace Go.Proofs.Ythobepmlopegbaa
open Go.RowKit

def cycZ (zs : List Int) (gs : List Bool) (st : Int) (k v : Nat) : List Int := if st = 3 then progL zs gs k v else if st = 6 then wipeZ zs gs k v else zs
def cycG (gs : List Bool) (st : Int) (k : Nat) : List Bool := if st = 8 then gs.set (k / 16) true else gs
theorem cycZ_len (zs : List Int) (gs : List Bool) (st : Int) (k v : Nat) : (cycZ zs gs st k v).length = zs.length := by
  unfold cycZ
  split
  · exact progL_len _ _ _ _
  · split
    · exact wipeZ_len _ _ _ _
    · rfl
theorem cycG_len (gs : List Bool) (st : Int) (k : Nat) : (cycG gs st k).length = gs.length := by
  unfold cycG
  split
  · exact List.length_set
  · rfl
theorem eraseN_range {zs : List Int} {gs : List Bool} (h : ∀ z ∈ zs, 0 ≤ z ∧ z ≤ 255) : ∀ n, ∀ z ∈ eraseN zs gs n, 0 ≤ z ∧ z ≤ 255
  | 0 => h
  | n + 1 => eraseL_range (eraseN_range h n)
theorem wipeZ_range {zs : List Int} {gs : List Bool} {k v : Nat} (h : ∀ z ∈ zs, 0 ≤ z ∧ z ≤ 255) : ∀ z ∈ wipeZ zs gs k v, 0 ≤ z ∧ z ≤ 255 := by
  unfold wipeZ
  split
  · split
    · exact eraseN_range h 16
    · exact h
  · split
    · exact eraseL_range h
    · exact h
theorem cycZ_range {zs : List Int} {gs : List Bool} {st : Int} {k v : Nat} (h : ∀ z ∈ zs, 0 ≤ z ∧ z ≤ 255) (hv : v < 256) : ∀ z ∈ cycZ zs gs st k v, 0 ≤ z ∧ z ≤ 255 := by
  unfold cycZ
  split
  · exact progL_range h hv
  · split
    · exact wipeZ_range h
    · exact h
theorem nextS_in (st k v : Int) : 0 ≤ nextS st k v ∧ nextS st k v ≤ 8 := by
  unfold nextS cmdS
  split
  · split <;> omega
  · split
    · split <;> omega
    · split
      · split
        · split
          · omega
          · split
            · omega
            · split
              · omega
              · split <;> omega
        · omega
      · split
        · split <;> omega
        · omega

theorem wpStill_load_mid {P : Program} {ops : Array Oper} {w : World} {Q : Act → Prop} {a : Act} {o : Oper} {rest : List Oper} (hgd : o.guard = none) (ty : TypeId) (x : Operand) (ho : o.op = .load ty x)
    (b off : Nat) (hx : a.eval x = .pointer (some ⟨b, off, none⟩)) (cs : List Value) (d : TypeDesc) (hc : w.rangeAt b off cs) (hu : P.underlying ty = some d) (hd : d.isRow = true) (hi : (P.info? ty).map (·.size) = some cs.length)
    (h : wpStill P ops w Q rest (a.put o.dst (.agg cs.toArray))) : wpStill P ops w Q (o :: rest) a :=
  wpStill_step (fun K hK => by
    rw [if_pos (by simp [Region.wanted, hgd])]
    unfold Oper.still execOp
    simp only [ho, hx, Instr.loadAt, Instr.sureAddr, Sem.run_bind, Sem.run_pure, Result.andThen_ok, run_loadVar_mid w b off ty cs d hc hu hd hi]
    rw [Oper.stillUpon_value]
    exact hK _ h)

end Go.Proofs.Ythobepmlopegbaa

/- Contracts of Flash.identify, l01Bit, l03Read and both BusRead. -/
namespace Go.Proofs.Ythobepmlopegbaa
open Go.RowKit

def readV (zs : List Int) (gs : List Bool) (st : Int) (n : Nat) : Int :=
  if st = 7 then (if n % 4 = 0 then 32 else if n % 4 = 1 then 47 else if n % 4 = 2 then (if gs.getD (n / 16) false then 1 else 0) else 255) else zs.getD n 0
def readOf (zs : List Int) (gs : List Bool) (st a : Int) : Int × Int :=
  if okFlash zs gs st then (if byB a then (readV zs gs st a.toNat, 0) else (0, 4)) else (0, 1)

theorem quiet_same' {P : Program} {f : FuncId} {args : Array Value} {w : World} {n : Nat} {v : Value}
    (h : Calls P f args (w.drewN n) fun e w' => e = .returned v ∧ w.drewN n = w') : Calls P f args (w.drewN n) fun e w' => e = .returned v ∧ ∃ m, w' = w.drewN m :=
  h.mono fun _ _ ⟨he, hw⟩ => ⟨he, n, hw.symm⟩

set_option maxRecDepth 100000 in
theorem l01Bit (q : Bool) (w : World) : Calls Try.prog 73 #[.bool q] w fun e w' => e = .returned (.int .i64 (if q then 1 else 0)) ∧ w = w' := by
  cases q <;> (go_enter Try.func73, Try.ntmps73; go_wp2; go_ret; exact ⟨rfl, rfl⟩)

theorem readOf_bad (zs : List Int) (gs : List Bool) (st a : Int) (h : okFlash zs gs st = false) : readOf zs gs st a = (0, 1) := by unfold readOf; simp [h]
theorem readOf_range (zs : List Int) (gs : List Bool) (st a : Int) (h : okFlash zs gs st = true) (h2 : byB a = false) : readOf zs gs st a = (0, 4) := by unfold readOf; simp [h, h2]
theorem readOf_ok (zs : List Int) (gs : List Bool) (st : Int) (k : Nat) (h : okFlash zs gs st = true) (h2 : byB k = true) : readOf zs gs st k = (readV zs gs st k, 0) := by unfold readOf; simp [h, h2]
theorem readV_7 (zs : List Int) (gs : List Bool) (k : Nat) : readV zs gs 7 k = readV [] gs 7 k := by unfold readV; rw [if_pos rfl, if_pos rfl]

end Go.Proofs.Ythobepmlopegbaa

/- The model's bus cycle: l03Third, l03Write, BusWrite. -/
namespace Go.Proofs.Ythobepmlopegbaa
open Go.RowKit

def writeF (zs : List Int) (gs : List Bool) (st a v : Int) := gate (codeIf (okFlash zs gs st) (byB a && byB v)) (cycZ zs gs st a.toNat v.toNat) (cycG gs st a.toNat) (nextS st a v)
theorem writeF_bound (zs : List Int) (gs : List Bool) (st a v : Int) : (writeF zs gs st a v).1.length ≤ 1048576 ∧ (writeF zs gs st a v).2.1.length ≤ 1048576 := gate_bound (fun h => by have := okFlash_len h; rw [cycZ_len, cycG_len]; omega)

/-- The call hands back a flash that reads so (its memory may be an argument's). -/
def ReadsFlash (zs : List Int) (gs : List Bool) (st : Int) (w : World) (e : Ending) (w' : World) : Prop :=
  ∃ A n c C m d, e = .returned (.agg #[.slice A n c, .slice C m d, .int .i64 st]) ∧ Hid (zs.length = n) ∧ Hid (gs.length = m) ∧ Hid (IntL w' A zs) ∧ Hid (BoolL w' C gs) ∧ Below w.heap.size w w'

set_option maxRecDepth 100000 in
theorem l03Third (k v : Nat) (w : World) : Calls Try.prog 84 #[.int .i64 k, .int .i64 v] w fun e w' => e = .returned (.int .i64 (if (k : Int) = 85 then cmdS v else 0)) ∧ w = w' := by
  go_enter Try.func84, Try.ntmps84
  go_wp2
  all_goals go_ret
  all_goals (refine ⟨ret_int ?_, rfl⟩)
  all_goals (first | (unfold cmdS; simp_all; done) | simp_all)

theorem nextS_0 (k v : Nat) : nextS 0 k v = if ((k : Int) == 85) && ((v : Int) == 170) then 1 else 0 := by unfold nextS; simp
theorem nextS_4 (k v : Nat) : nextS 4 k v = if ((k : Int) == 85) && ((v : Int) == 170) then 5 else 0 := by unfold nextS; simp
theorem nextS_1 (k v : Nat) : nextS 1 k v = if ((k : Int) == 42) && ((v : Int) == 85) then 2 else 0 := by unfold nextS; simp
theorem nextS_5 (k v : Nat) : nextS 5 k v = if ((k : Int) == 42) && ((v : Int) == 85) then 6 else 0 := by unfold nextS; simp
theorem nextS_2 (k v : Nat) : nextS 2 k v = if (k : Int) = 85 then cmdS v else 0 := by unfold nextS; simp
theorem nextS_7 (k v : Nat) : nextS 7 k v = if ((v : Int) != 240) then 7 else 0 := by
  unfold nextS
  by_cases h : (v : Int) = 240 <;> simp [h]
theorem nextS_3 (k v : Nat) : nextS 3 k v = 0 := by unfold nextS; simp
theorem nextS_6 (k v : Nat) : nextS 6 k v = 0 := by unfold nextS; simp
theorem nextS_8 (k v : Nat) : nextS 8 k v = 0 := by unfold nextS; simp
theorem cyc_plain (zs : List Int) (gs : List Bool) (st : Int) (k v : Nat) (h3 : st ≠ 3) (h6 : st ≠ 6) (h8 : st ≠ 8) : cycZ zs gs st k v = zs ∧ cycG gs st k = gs :=
  ⟨by unfold cycZ; rw [if_neg h3, if_neg h6], by unfold cycG; rw [if_neg h8]⟩

/-- The four tests that every cycle makes. -/
structure Tests (k v : Nat) (b1 b2 b3 b4 : Bool) : Prop where
  t1 : ((k : Int) == 85) = b1
  t2 : ((v : Int) == 170) = b2
  t3 : ((k : Int) == 42) = b3
  t4 : ((v : Int) == 85) = b4

set_option maxRecDepth 100000 in
set_option maxHeartbeats 8000000 in
theorem writePlain (A C : Option Addr) (c d k v : Nat) (st s : Int) (w : World) (b1 b2 b3 b4 : Bool) (T : Tests k v b1 b2 b3 b4)
    (hst : (st = 0 ∧ s = if b1 && b2 then 1 else 0) ∨ (st = 4 ∧ s = if b1 && b2 then 5 else 0) ∨ (st = 1 ∧ s = if b3 && b4 then 2 else 0) ∨ (st = 5 ∧ s = if b3 && b4 then 6 else 0)) :
    Calls Try.prog 70 #[.agg #[.slice A 256 c, .slice C 16 d, .int .i64 st], .int .i64 k, .int .i64 v] w fun e w' => e = .returned (.agg #[.slice A 256 c, .slice C 16 d, .int .i64 s]) ∧ Below w.heap.size w w' := by
  obtain ⟨t1, t2, t3, t4⟩ := T
  rcases hst with ⟨rfl, rfl⟩ | ⟨rfl, rfl⟩ | ⟨rfl, rfl⟩ | ⟨rfl, rfl⟩
  all_goals (
    cases b1 <;> cases b2 <;> cases b3 <;> cases b4 <;> (
      go_enter Try.func70, Try.ntmps70
      go_wp2_with (first | (go_at_call 73; refine (l01Bit _ _).mono ?_; rintro e w' ⟨rfl, rfl⟩))
      refine bodyPost_ret (by simp [results, Try.results70, go_sem]; rfl) rfl ?_
      exact ⟨rfl, bt (alloc_below _ _) (alloc_below _ _)⟩))
end Go.Proofs.Ythobepmlopegbaa

/- The model's bus cycle in the states that do more: a command, autoselect, programming, protecting, erasing. -/
namespace Go.Proofs.Ythobepmlopegbaa
open Go.RowKit

set_option maxRecDepth 100000 in
set_option maxHeartbeats 8000000 in
theorem writeCmd (A C : Option Addr) (c d k v : Nat) (s : Int) (w : World) (b1 b2 b3 b4 : Bool) (T : Tests k v b1 b2 b3 b4) (hs : (if (k : Int) = 85 then cmdS v else 0) = s) :
    Calls Try.prog 70 #[.agg #[.slice A 256 c, .slice C 16 d, .int .i64 2], .int .i64 k, .int .i64 v] w fun e w' => e = .returned (.agg #[.slice A 256 c, .slice C 16 d, .int .i64 s]) ∧ Below w.heap.size w w' := by
  obtain ⟨t1, t2, t3, t4⟩ := T
  have h3 : ∀ W, Calls Try.prog 84 #[.int .i64 k, .int .i64 v] W fun e w' => e = .returned (.int .i64 s) ∧ W = w' := fun W => by have := l03Third k v W; rw [hs] at this; exact this
  have H3 := Lib.hid h3
  clear h3 hs
  cases b1 <;> cases b3 <;> (
    go_enter Try.func70, Try.ntmps70
    go_wp2_with (first | (go_at_call 84; refine (H3.out _).mono ?_; rintro e w' ⟨rfl, rfl⟩))
    refine bodyPost_ret (by simp [results, Try.results70, go_sem]; rfl) rfl ?_
    exact ⟨rfl, bt (alloc_below _ _) (alloc_below _ _)⟩)

set_option maxRecDepth 100000 in
set_option maxHeartbeats 8000000 in
theorem writeAuto (A C : Option Addr) (c d k v : Nat) (w : World) (b1 b2 b3 b4 b5 : Bool) (T : Tests k v b1 b2 b3 b4) (t5 : ((v : Int) != 240) = b5) :
    Calls Try.prog 70 #[.agg #[.slice A 256 c, .slice C 16 d, .int .i64 7], .int .i64 k, .int .i64 v] w fun e w' => e = .returned (.agg #[.slice A 256 c, .slice C 16 d, .int .i64 (if b5 then 7 else 0)]) ∧ Below w.heap.size w w' := by
  obtain ⟨t1, t2, t3, t4⟩ := T
  cases b1 <;> cases b3 <;> cases b5 <;> (
    go_enter Try.func70, Try.ntmps70
    go_wp2_with (first | (go_at_call 73; refine (l01Bit _ _).mono ?_; rintro e w' ⟨rfl, rfl⟩))
    refine bodyPost_ret (by simp [results, Try.results70, go_sem]; rfl) rfl ?_
    exact ⟨rfl, bt (alloc_below _ _) (alloc_below _ _)⟩)

/-- The two boxes that a bus cycle opens, the state being put to reading. -/
theorem opened (A C : Option Addr) (c d : Nat) (w : World) :
    ∃ W, W = ((w.alloc (.cells #[.slice A 256 c, .slice C 16 d, .int .i64 0] 26)).alloc (.cells #[.slice none 0 0, .slice none 0 0, .int .i64 0] 26)) ∧ Below w.heap.size w W ∧ Box W w.heap.size 26 #[.slice A 256 c, .slice C 16 d, .int .i64 0] ∧ Box W (w.heap.size + 1) 26 #[.slice none 0 0, .slice none 0 0, .int .i64 0] := by
  have X0 := (Box.new w 26 #[.slice A 256 c, .slice C 16 d, .int .i64 0]).alloc (.cells #[.slice none 0 0, .slice none 0 0, .int .i64 0] 26)
  have Y0 := Box.new (w.alloc (.cells #[.slice A 256 c, .slice C 16 d, .int .i64 0] 26)) 26 #[.slice none 0 0, .slice none 0 0, .int .i64 0]
  have hs : (w.alloc (.cells #[.slice A 256 c, .slice C 16 d, .int .i64 0] 26)).heap.size = w.heap.size + 1 := by simp
  rw [hs] at Y0
  exact ⟨_, rfl, bt (alloc_below _ _) (alloc_below _ _), X0, Y0⟩

def FlashAt (w : World) (A C : Option Addr) (zs : List Int) (gs : List Bool) : Prop := (zs.length = 256 ∧ gs.length = 16) ∧ IntL w A zs ∧ BoolL w C gs

set_option maxRecDepth 100000 in
set_option maxHeartbeats 8000000 in
theorem writeProgram (A C : Option Addr) (c d k v : Nat) (zs : List Int) (gs : List Bool) (w : World) (b1 b2 b3 b4 : Bool) (T : Tests k v b1 b2 b3 b4) (hk : k < 256) (hv : v < 256) (hz : ∀ z ∈ zs, 0 ≤ z ∧ z ≤ 255) (h : FlashAt w A C zs gs) :
    Calls Try.prog 70 #[.agg #[.slice A 256 c, .slice C 16 d, .int .i64 3], .int .i64 k, .int .i64 v] w (GivesFlash (progL zs gs k v) gs 0 w) := by
  obtain ⟨W, hW, hb, X, Y⟩ := opened A C c d w
  obtain ⟨t1, t2, t3, t4⟩ := T
  have HP := Lib.hid (l03Program A C 256 c 16 d k v 0 zs gs W h.1.1 h.1.2 rfl rfl hk hv hz (h.2.1.below hb) (h.2.2.below hb))
  have HY := Lib.hid (And.intro hb Y)
  have HW := Lib.hid hW
  generalize progL zs gs k v = zr at HP ⊢
  clear h hz hk hv hb X Y hW
  cases b1 <;> cases b3 <;> (
    go_enter Try.func70, Try.ntmps70
    go_wp2_with fail
    rw [← HW.out]
    refine HP.out.mono ?_
    rintro e w3 ⟨A3, n3, c3, C3, m3, d3, rfl, L3, M3, S3, R3, hb3⟩
    have Y3 := HY.out.2.step hb3
    have s0 := Y3.cell 0 rfl
    have s1 := Y3.cell 1 rfl
    have s2 := Y3.cell 2 rfl
    have s0z := Y3.frozen 0
    have s1z := Y3.frozen 1
    have s2z := Y3.frozen 2
    have HY3 := Lib.hid Y3
    clear Y3
    go_wp2
    refine bodyPost_ret (v := .agg #[.slice A3 n3 c3, .slice C3 m3 d3, .int .i64 0]) (by simp [results, Try.results70, go_sem, s0, s1, s2]) rfl ?_
    exact ⟨_, _, _, _, _, _, rfl, L3, M3, Lib.hid ((S3.out.far3 HY3.out _ _ _).wideB HY.out.1.size (by rw [size3]; exact Nat.le_refl _)), Lib.hid ((R3.out.far3 HY3.out _ _ _).wide HY.out.1.size (by rw [size3]; exact Nat.le_refl _)), below3 (bt HY.out.1 hb3) (by omega) _ _ _⟩)

set_option maxRecDepth 100000 in
set_option maxHeartbeats 8000000 in
theorem writeGuard (A C : Option Addr) (c d k v : Nat) (zs : List Int) (gs : List Bool) (w : World) (b1 b2 b3 b4 : Bool) (T : Tests k v b1 b2 b3 b4) (hk : k < 256) (h : FlashAt w A C zs gs) :
    Calls Try.prog 70 #[.agg #[.slice A 256 c, .slice C 16 d, .int .i64 8], .int .i64 k, .int .i64 v] w (GivesFlash zs (gs.set (k / 16) true) 0 w) := by
  obtain ⟨W, hW, hb, X, Y⟩ := opened A C c d w
  obtain ⟨t1, t2, t3, t4⟩ := T
  have hP := l03Guard A C 256 c 16 d (k / 16) 0 zs gs W h.1.1 h.1.2 rfl rfl (by omega) (h.2.1.below hb) (h.2.2.below hb)
  rw [show ((k / 16 : Nat) : Int) = (k : Int) / 16 from by omega] at hP
  have HP := Lib.hid hP
  clear hP
  have HY := Lib.hid (And.intro hb Y)
  have HW := Lib.hid hW
  generalize gs.set (k / 16) true = gr at HP ⊢
  have hki : (k : Int) < 256 := by omega
  clear h hb X Y hW
  cases b1 <;> cases b3 <;> (
    go_enter Try.func70, Try.ntmps70
    go_wp2_with fail
    rw [← HW.out]
    refine HP.out.mono ?_
    rintro e w3 ⟨A3, n3, c3, C3, m3, d3, rfl, L3, M3, S3, R3, hb3⟩
    have Y3 := HY.out.2.step hb3
    have s0 := Y3.cell 0 rfl
    have s1 := Y3.cell 1 rfl
    have s2 := Y3.cell 2 rfl
    have s0z := Y3.frozen 0
    have s1z := Y3.frozen 1
    have s2z := Y3.frozen 2
    have HY3 := Lib.hid Y3
    clear Y3
    go_wp2
    refine bodyPost_ret (v := .agg #[.slice A3 n3 c3, .slice C3 m3 d3, .int .i64 0]) (by simp [results, Try.results70, go_sem, s0, s1, s2]) rfl ?_
    exact ⟨_, _, _, _, _, _, rfl, L3, M3, Lib.hid ((S3.out.far3 HY3.out _ _ _).wideB HY.out.1.size (by rw [size3]; exact Nat.le_refl _)), Lib.hid ((R3.out.far3 HY3.out _ _ _).wide HY.out.1.size (by rw [size3]; exact Nat.le_refl _)), below3 (bt HY.out.1 hb3) (by omega) _ _ _⟩)
end Go.Proofs.Ythobepmlopegbaa

/- The model's bus cycle in the state of erasing. -/
namespace Go.Proofs.Ythobepmlopegbaa
open Go.RowKit

set_option maxRecDepth 100000 in
set_option maxHeartbeats 8000000 in
theorem writeErase (A C : Option Addr) (c d k : Nat) (zs : List Int) (gs : List Bool) (w : World) (b1 b2 b3 b4 : Bool) (T : Tests k 48 b1 b2 b3 b4) (hk : k < 256) (h : FlashAt w A C zs gs) :
    Calls Try.prog 70 #[.agg #[.slice A 256 c, .slice C 16 d, .int .i64 6], .int .i64 k, .int .i64 48] w (GivesFlash (eraseL zs gs (k / 16)) gs 0 w) := by
  obtain ⟨W, hW, hb, X, Y⟩ := opened A C c d w
  obtain ⟨t1, t2, t3, t4⟩ := T
  have hP := l03Erase A C 256 c 16 d (k / 16) 0 zs gs W h.1.1 h.1.2 rfl rfl (by omega) (h.2.1.below hb) (h.2.2.below hb)
  rw [show ((k / 16 : Nat) : Int) = (k : Int) / 16 from by omega] at hP
  have HP := Lib.hid hP
  clear hP
  have HY := Lib.hid (And.intro hb Y)
  have HW := Lib.hid hW
  generalize eraseL zs gs (k / 16) = zr at HP ⊢
  have hki : (k : Int) < 256 := by omega
  clear h hb X Y hW t2 t4
  cases b1 <;> cases b3 <;> (
    go_enter Try.func70, Try.ntmps70
    go_wp2_with fail
    rw [← HW.out]
    refine HP.out.mono ?_
    rintro e w3 ⟨A3, n3, c3, C3, m3, d3, rfl, L3, M3, S3, R3, hb3⟩
    have Y3 := HY.out.2.step hb3
    have s0 := Y3.cell 0 rfl
    have s1 := Y3.cell 1 rfl
    have s2 := Y3.cell 2 rfl
    have s0z := Y3.frozen 0
    have s1z := Y3.frozen 1
    have s2z := Y3.frozen 2
    have HY3 := Lib.hid Y3
    clear Y3
    go_wp2
    refine bodyPost_ret (v := .agg #[.slice A3 n3 c3, .slice C3 m3 d3, .int .i64 0]) (by simp [results, Try.results70, go_sem, s0, s1, s2]) rfl ?_
    exact ⟨_, _, _, _, _, _, rfl, L3, M3, Lib.hid ((S3.out.far3 HY3.out _ _ _).wideB HY.out.1.size (by rw [size3]; exact Nat.le_refl _)), Lib.hid ((R3.out.far3 HY3.out _ _ _).wide HY.out.1.size (by rw [size3]; exact Nat.le_refl _)), below3 (bt HY.out.1 hb3) (by omega) _ _ _⟩)

set_option maxRecDepth 100000 in
set_option maxHeartbeats 8000000 in
theorem writeNone (A C : Option Addr) (c d k v : Nat) (w : World) (b1 b2 b3 b4 : Bool) (T : Tests k v b1 b2 b3 b4) (t5 : ((v : Int) == 48) = false) (h6 : ((v : Int) == 16) = false ∨ (((v : Int) == 16) = true ∧ b1 = false)) :
    Calls Try.prog 70 #[.agg #[.slice A 256 c, .slice C 16 d, .int .i64 6], .int .i64 k, .int .i64 v] w fun e w' => e = .returned (.agg #[.slice A 256 c, .slice C 16 d, .int .i64 0]) ∧ Below w.heap.size w w' := by
  obtain ⟨t1, t2, t3, t4⟩ := T
  rcases h6 with t6 | ⟨t6, rfl⟩
  · cases b1 <;> cases b3 <;> (
      go_enter Try.func70, Try.ntmps70
      go_wp2
      refine bodyPost_ret (by simp [results, Try.results70, go_sem]; rfl) rfl ?_
      exact ⟨rfl, bt (alloc_below _ _) (alloc_below _ _)⟩)
  · cases b3 <;> (
      go_enter Try.func70, Try.ntmps70
      go_wp2
      refine bodyPost_ret (by simp [results, Try.results70, go_sem]; rfl) rfl ?_
      exact ⟨rfl, bt (alloc_below _ _) (alloc_below _ _)⟩)

set_option maxRecDepth 100000 in
set_option maxHeartbeats 8000000 in
theorem writeAll (A C : Option Addr) (c d : Nat) (zs : List Int) (gs : List Bool) (w : World) (h : FlashAt w A C zs gs) :
    Calls Try.prog 70 #[.agg #[.slice A 256 c, .slice C 16 d, .int .i64 6], .int .i64 85, .int .i64 16] w (GivesFlash (eraseN zs gs 16) gs 0 w) := by
  obtain ⟨W, hW, hb, X, Y⟩ := opened A C c d w
  have HEr := Lib.hid (fun j (hj : j < 16) A n c C m d zs' gs' W (h1 : zs'.length = 256) (h2 : gs'.length = 16) (e1 : n = 256) (e2 : m = 16) => l03Erase A C n c m d j 0 zs' gs' W (h1.trans e1.symm) (h2.trans e2.symm) e1 e2 hj)
  have HL := Lib.hid h.1
  have HI : Hid (IntL W A zs ∧ BoolL W C gs) := Lib.hid ⟨h.2.1.below hb, h.2.2.below hb⟩
  have HX := Lib.hid (And.intro X Y)
  have HW := Lib.hid hW
  clear h X Y hW
  go_enter Try.func70, Try.ntmps70
  go_wp2
  rw [← HW.out]
  go_loopw [10] (fun i wr => ∃ j : Nat, j ≤ 16 ∧ i = .int .i64 j ∧ Below w.heap.size w wr ∧ ∃ A1 c1 C1 d1, Hid (Box wr w.heap.size 26 #[.slice A1 256 c1, .slice C1 16 d1, .int .i64 0]) ∧ Hid (Box wr (w.heap.size + 1) 26 #[.slice none 0 0, .slice none 0 0, .int .i64 0]) ∧ Hid (IntL wr A1 (eraseN zs gs j)) ∧ Hid (BoolL wr C1 gs) ∧ Hid (0 < j → OwnI wr w.heap.size wr.heap.size A1 (eraseN zs gs j) ∧ OwnB wr w.heap.size wr.heap.size C1 gs)) (fun i _ => 16 - (intOf i).toNat)
  case atStart => exact ⟨0, by omega, rfl, hb, A, c, C, d, Lib.hid HX.out.1, Lib.hid HX.out.2, Lib.hid HI.out.1, Lib.hid HI.out.2, Lib.hid (fun h => absurd h (by omega))⟩
  case round =>
    clear HX HW hb HI
    obtain ⟨j, hj, rfl, hbw, A1, c1, C1, d1, X, Y, I, B, O⟩ := hrel
    have x0 := X.out.cell 0 rfl
    have x1 := X.out.cell 1 rfl
    have x2 := X.out.cell 2 rfl
    by_cases hlt : j < 16
    · have HE := Lib.hid (HEr.out j hlt A1 256 c1 C1 16 d1 (eraseN zs gs j) gs wr (by rw [eraseN_len]; exact HL.out.1) HL.out.2 rfl rfl I.out B.out)
      have hi : (j : Int) < 16 := by omega
      clear O I B HEr
      go_wp2_with fail
      refine HE.out.mono ?_
      rintro e w3 ⟨A3, n3, c3, C3, m3, d3, rfl, L3, M3, S3, R3, hb3⟩
      obtain rfl : n3 = 256 := by have := L3.out; rw [eraseL_len, eraseN_len] at this; have := HL.out; omega
      obtain rfl : m3 = 16 := by have := M3.out; have := HL.out; omega
      have X3 := X.out.step hb3
      have s0 := X3.cell 0 rfl
      have s1 := X3.cell 1 rfl
      have s2 := X3.cell 2 rfl
      have s0z := X3.frozen 0
      have s1z := X3.frozen 1
      have s2z := X3.frozen 2
      have HX3 := Lib.hid X3
      have hbs := hbw.size
      have HS : Hid (OwnI (((w3.setCell ⟨w.heap.size, 0, none⟩ (.slice A3 256 c3)).setCell ⟨w.heap.size, 1, none⟩ (.slice C3 16 d3)).setCell ⟨w.heap.size, 2, none⟩ (.int .i64 0)) w.heap.size (((w3.setCell ⟨w.heap.size, 0, none⟩ (.slice A3 256 c3)).setCell ⟨w.heap.size, 1, none⟩ (.slice C3 16 d3)).setCell ⟨w.heap.size, 2, none⟩ (.int .i64 0)).heap.size A3 (eraseN zs gs (j + 1))) := Lib.hid ((S3.out.far3 X3 _ _ _).wideB hbs (by rw [size3]; exact Nat.le_refl _))
      have HR : Hid (OwnB (((w3.setCell ⟨w.heap.size, 0, none⟩ (.slice A3 256 c3)).setCell ⟨w.heap.size, 1, none⟩ (.slice C3 16 d3)).setCell ⟨w.heap.size, 2, none⟩ (.int .i64 0)) w.heap.size (((w3.setCell ⟨w.heap.size, 0, none⟩ (.slice A3 256 c3)).setCell ⟨w.heap.size, 1, none⟩ (.slice C3 16 d3)).setCell ⟨w.heap.size, 2, none⟩ (.int .i64 0)).heap.size C3 gs) := Lib.hid ((R3.out.far3 X3 _ _ _).wide hbs (by rw [size3]; exact Nat.le_refl _))
      have HXn := Lib.hid (X3.flash3 rfl (.slice A3 256 c3) (.slice C3 16 d3) (.int .i64 0))
      have HYn := Lib.hid ((Y.out.step hb3).far3 (show w.heap.size + 1 ≠ w.heap.size by omega) (.slice A3 256 c3) (.slice C3 16 d3) (.int .i64 0))
      have hbn := below3 (bt hbw hb3) (Nat.le_refl _) (.slice A3 256 c3) (.slice C3 16 d3) (.int .i64 0)
      clear X3 X Y x0 x1 x2 S3 R3 L3 M3 hb3 hbw HE
      go_wp2
      go_roundw
      case rel => exact ⟨j + 1, by omega, by go_num, hbn, A3, c3, C3, d3, HXn, HYn, Lib.hid HS.out.reads, Lib.hid HR.out.reads, Lib.hid (fun _ => ⟨HS.out, HR.out⟩)⟩
      case measure => simp [intOf]; omega
    · obtain rfl : j = 16 := by omega
      have s0 := Y.out.cell 0 rfl
      have s1 := Y.out.cell 1 rfl
      have s2 := Y.out.cell 2 rfl
      have s0z := Y.out.frozen 0
      have s1z := Y.out.frozen 1
      have s2z := Y.out.frozen 2
      clear HEr I B
      go_wp2
      refine bodyPost_ret (v := .agg #[.slice A1 256 c1, .slice C1 16 d1, .int .i64 0]) (by simp [results, Try.results70, go_sem, s0, s1, s2]) rfl ?_
      have HO := O.out (by omega)
      exact ⟨_, _, _, _, _, _, rfl, Lib.hid (by rw [eraseN_len]; exact HL.out.1), Lib.hid HL.out.2, Lib.hid ((HO.1.far3 Y.out _ _ _).wideB (Nat.le_refl _) (by rw [size3]; exact Nat.le_refl _)), Lib.hid ((HO.2.far3 Y.out _ _ _).wide (Nat.le_refl _) (by rw [size3]; exact Nat.le_refl _)), below3 hbw (by omega) _ _ _⟩
end Go.Proofs.Ythobepmlopegbaa

/- The model's l03Write, and BusWrite on both sides. -/
namespace Go.Proofs.Ythobepmlopegbaa
open Go.RowKit

theorem ReadsFlash.of_gives {zs : List Int} {gs : List Bool} {st : Int} {w : World} {e : Ending} {w' : World} (h : GivesFlash zs gs st w e w') : ReadsFlash zs gs st w e w' := by
  obtain ⟨A, n, c, C, m, d, e1, L, M, S, R, b⟩ := h
  exact ⟨A, n, c, C, m, d, e1, L, M, Lib.hid S.out.reads, Lib.hid R.out.reads, b⟩
theorem ReadsFlash.of_same {A C : Option Addr} {c d : Nat} {zs : List Int} {gs : List Bool} {st : Int} {w : World} {e : Ending} {w' : World} (h : FlashAt w A C zs gs) (q : e = .returned (.agg #[.slice A 256 c, .slice C 16 d, .int .i64 st]) ∧ Below w.heap.size w w') : ReadsFlash zs gs st w e w' :=
  ⟨A, 256, c, C, 16, d, q.1, Lib.hid h.1.1, Lib.hid h.1.2, Lib.hid (h.2.1.below q.2), Lib.hid (h.2.2.below q.2), q.2⟩
theorem tests (k v : Nat) : Tests k v ((k : Int) == 85) ((v : Int) == 170) ((k : Int) == 42) ((v : Int) == 85) := ⟨rfl, rfl, rfl, rfl⟩

/-- A bus cycle hands back a flash of its own, or the bytes and the protection that it was given, with another state. -/
def WritesFlash (A C : Option Addr) (c d : Nat) (zs : List Int) (gs : List Bool) (zs' : List Int) (gs' : List Bool) (st' : Int) (w : World) (e : Ending) (w' : World) : Prop :=
  GivesFlash zs' gs' st' w e w' ∨ (zs' = zs ∧ gs' = gs ∧ e = .returned (.agg #[.slice A 256 c, .slice C 16 d, .int .i64 st']) ∧ Below w.heap.size w w')

set_option maxRecDepth 100000 in
theorem l03Write0 (A C : Option Addr) (c d k v : Nat) (st : Int) (zs : List Int) (gs : List Bool) (w : World) (hk : k < 256) (hv : v < 256) (hs : 0 ≤ st ∧ st ≤ 8) (hz : ∀ z ∈ zs, 0 ≤ z ∧ z ≤ 255) (h : FlashAt w A C zs gs) :
    Calls Try.prog 70 #[.agg #[.slice A 256 c, .slice C 16 d, .int .i64 st], .int .i64 k, .int .i64 v] w (WritesFlash A C c d zs gs (cycZ zs gs st k v) (cycG gs st k) (nextS st k v) w) := by
  have h9 : st = 0 ∨ st = 1 ∨ st = 2 ∨ st = 3 ∨ st = 4 ∨ st = 5 ∨ st = 6 ∨ st = 7 ∨ st = 8 := by omega
  have plain := fun (st : Int) (s : Int) (hq : (st = 0 ∧ s = if ((k : Int) == 85) && ((v : Int) == 170) then 1 else 0) ∨ (st = 4 ∧ s = if ((k : Int) == 85) && ((v : Int) == 170) then 5 else 0) ∨ (st = 1 ∧ s = if ((k : Int) == 42) && ((v : Int) == 85) then 2 else 0) ∨ (st = 5 ∧ s = if ((k : Int) == 42) && ((v : Int) == 85) then 6 else 0)) => writePlain A C c d k v st s w _ _ _ _ (tests k v) hq
  rcases h9 with rfl | rfl | rfl | rfl | rfl | rfl | rfl | rfl | rfl
  · obtain ⟨e1, e2⟩ := cyc_plain zs gs 0 k v (by omega) (by omega) (by omega)
    rw [e1, e2, nextS_0]
    exact (plain 0 _ (.inl ⟨rfl, rfl⟩)).mono fun _ _ q => .inr ⟨rfl, rfl, q⟩
  · obtain ⟨e1, e2⟩ := cyc_plain zs gs 1 k v (by omega) (by omega) (by omega)
    rw [e1, e2, nextS_1]
    exact (plain 1 _ (.inr (.inr (.inl ⟨rfl, rfl⟩)))).mono fun _ _ q => .inr ⟨rfl, rfl, q⟩
  · obtain ⟨e1, e2⟩ := cyc_plain zs gs 2 k v (by omega) (by omega) (by omega)
    rw [e1, e2, nextS_2]
    exact (writeCmd A C c d k v _ w _ _ _ _ (tests k v) rfl).mono fun _ _ q => .inr ⟨rfl, rfl, q⟩
  · rw [nextS_3, show cycZ zs gs 3 k v = progL zs gs k v from by unfold cycZ; rw [if_pos rfl], show cycG gs 3 k = gs from by unfold cycG; rw [if_neg (by omega)]]
    exact (writeProgram A C c d k v zs gs w _ _ _ _ (tests k v) hk hv hz h).mono fun _ _ q => .inl q
  · obtain ⟨e1, e2⟩ := cyc_plain zs gs 4 k v (by omega) (by omega) (by omega)
    rw [e1, e2, nextS_4]
    exact (plain 4 _ (.inr (.inl ⟨rfl, rfl⟩))).mono fun _ _ q => .inr ⟨rfl, rfl, q⟩
  · obtain ⟨e1, e2⟩ := cyc_plain zs gs 5 k v (by omega) (by omega) (by omega)
    rw [e1, e2, nextS_5]
    exact (plain 5 _ (.inr (.inr (.inr ⟨rfl, rfl⟩)))).mono fun _ _ q => .inr ⟨rfl, rfl, q⟩
  · rw [nextS_6, show cycZ zs gs 6 k v = wipeZ zs gs k v from by unfold cycZ; rw [if_neg (by omega), if_pos rfl], show cycG gs 6 k = gs from by unfold cycG; rw [if_neg (by omega)]]
    by_cases h48 : v = 48
    · subst h48
      rw [show wipeZ zs gs k 48 = eraseL zs gs (k / 16) from by unfold wipeZ; rw [if_neg (by omega), if_pos rfl]]
      exact (writeErase A C c d k zs gs w _ _ _ _ (tests k 48) hk h).mono fun _ _ q => .inl q
    · by_cases h16 : v = 16
      · subst h16
        by_cases h85 : k = 85
        · subst h85
          rw [show wipeZ zs gs 85 16 = eraseN zs gs 16 from by unfold wipeZ; rw [if_pos rfl, if_pos rfl]]
          exact (writeAll A C c d zs gs w h).mono fun _ _ q => .inl q
        · rw [show wipeZ zs gs k 16 = zs from by unfold wipeZ; rw [if_pos rfl, if_neg h85]]
          exact (writeNone A C c d k 16 w _ _ _ _ (tests k 16) (by simp) (.inr ⟨by simp, by simp; omega⟩)).mono fun _ _ q => .inr ⟨rfl, rfl, q⟩
      · rw [show wipeZ zs gs k v = zs from by unfold wipeZ; rw [if_neg h16, if_neg h48]]
        exact (writeNone A C c d k v w _ _ _ _ (tests k v) (by simp; omega) (.inl (by simp; omega))).mono fun _ _ q => .inr ⟨rfl, rfl, q⟩
  · obtain ⟨e1, e2⟩ := cyc_plain zs gs 7 k v (by omega) (by omega) (by omega)
    rw [e1, e2, nextS_7]
    exact (writeAuto A C c d k v w _ _ _ _ _ (tests k v) rfl).mono fun _ _ q => .inr ⟨rfl, rfl, q⟩
  · rw [nextS_8, show cycZ zs gs 8 k v = zs from by unfold cycZ; rw [if_neg (by omega), if_neg (by omega)], show cycG gs 8 k = gs.set (k / 16) true from by unfold cycG; rw [if_pos rfl]]
    exact (writeGuard A C c d k v zs gs w _ _ _ _ (tests k v) hk h).mono fun _ _ q => .inl q

set_option maxRecDepth 100000 in
theorem l03Write (A C : Option Addr) (c d k v : Nat) (st : Int) (zs : List Int) (gs : List Bool) (w : World) (hk : k < 256) (hv : v < 256) (hs : 0 ≤ st ∧ st ≤ 8) (hz : ∀ z ∈ zs, 0 ≤ z ∧ z ≤ 255) (h : FlashAt w A C zs gs) :
    Calls Try.prog 70 #[.agg #[.slice A 256 c, .slice C 16 d, .int .i64 st], .int .i64 k, .int .i64 v] w (ReadsFlash (cycZ zs gs st k v) (cycG gs st k) (nextS st k v) w) := by
  refine (l03Write0 A C c d k v st zs gs w hk hv hs hz h).mono ?_
  rintro e w' (q | ⟨q1, q2, q3⟩)
  · exact .of_gives q
  · rw [q1, q2]; exact .of_same h q3

end Go.Proofs.Ythobepmlopegbaa

/- The model's source of draws: next, chance, the source itself. -/
namespace Go.Proofs.Ythobepmlopegbaa
open Go.RowKit

set_option maxRecDepth 100000 in
set_option maxHeartbeats 4000000 in
theorem srcNextX (N : Nat) (b : Nat) (A : Option Addr) (n c : Nat) (zs : List Nat) (k sd : Nat) (w : World) (hN : 2 ≤ N) (hN2 : N ≤ 256) (hK : k ≤ 1000000000) (h : SrcX w b A n c zs k sd) :
    Calls Try.prog 67 #[.pointer (some ⟨b, 0, none⟩), .int .i64 (N : Nat)] w fun e w' => e = .returned (.int .i64 ((byteV zs k sd).1 % N : Nat)) ∧ Hid (SrcX w' b A n c zs (byteV zs k sd).2.1 (byteV zs k sd).2.2) ∧ Btw b (b + 1) w w' := by
  have HC := Lib.hid (srcByteX b A n c zs k sd w hK h)
  have h1 : ¬ (N : Int) ≤ 1 := by omega
  have h2 : (N : Int) ≤ 256 := by omega
  have h3 : ¬ (N : Int) = 0 := by omega
  clear h
  go_enter Try.func67, Try.ntmps67
  go_wp2_with fail
  refine HC.out.mono ?_
  rintro e w1 ⟨rfl, S1, hb1⟩
  obtain ⟨v, hv⟩ : ∃ v, v = (byteV zs k sd).1 := ⟨_, rfl⟩
  rw [← hv]
  have HV := Lib.hid hv
  clear hv
  have v0 : (0 : Int) ≤ (v : Int) := by omega
  go_wp2
  have e1 : (v : Int) % (N : Int) = ((v % N : Nat) : Int) := by omega
  rw [e1]
  refine bodyPost_ret (v := .int .i64 ((v % N : Nat) : Int)) (by simp [results, Try.results67, go_sem]) rfl ?_
  exact ⟨by rw [HV.out], S1, hb1⟩

set_option maxRecDepth 100000 in
theorem srcNext (N : Nat) (b : Nat) (A : Option Addr) (n c : Nat) (zs : List Nat) (K : Nat) (w : World) (hN : 2 ≤ N) (hN2 : N ≤ 256) (hK : K ≤ 1000000000) (h : Src w b A n c zs K) :
    Calls Try.prog 67 #[.pointer (some ⟨b, 0, none⟩), .int .i64 (N : Nat)] w fun e w' => ∃ v : Nat, e = .returned (.int .i64 v) ∧ v < N ∧ Hid (Src w' b A n c zs (K + 1)) ∧ Btw b (b + 1) w w' := by
  obtain ⟨k, sd, hk, hx⟩ := h.exact
  refine (srcNextX N b A n c zs k sd w hN hN2 (by omega) hx).mono ?_
  rintro e w' ⟨rfl, h2, h3⟩
  exact ⟨_, rfl, Nat.mod_lt _ (by omega), Lib.hid (h2.out.src (by rw [byteV_at]; omega)), h3⟩

set_option maxRecDepth 100000 in
set_option maxHeartbeats 4000000 in
theorem srcChance (N : Nat) (b : Nat) (A : Option Addr) (n c : Nat) (zs : List Nat) (K : Nat) (w : World) (hN : 2 ≤ N) (hN2 : N ≤ 256) (hK : K ≤ 1000000000) (h : Src w b A n c zs K) :
    Calls Try.prog 81 #[.pointer (some ⟨b, 0, none⟩), .int .i64 (N : Nat)] w fun e w' => ∃ v : Bool, e = .returned (.bool v) ∧ Hid (Src w' b A n c zs (K + 1)) ∧ Btw b (b + 1) w w' := by
  have HC := Lib.hid (srcNext N b A n c zs K w hN hN2 hK h)
  clear h
  go_enter Try.func81, Try.ntmps81
  go_wp2_with fail
  refine HC.out.mono ?_
  rintro e w1 ⟨v, rfl, hv, S1, hb1⟩
  go_wp2
  refine bodyPost_ret (v := .bool ((v : Int) == (N : Int) - 1)) (by simp [results, Try.results81, go_sem]) rfl ?_
  exact ⟨_, rfl, S1, hb1⟩

set_option maxRecDepth 100000 in
set_option maxHeartbeats 4000000 in
theorem srcNewX (A : Option Addr) (n c : Nat) (zs : List Nat) (w : World) (hn : n ≤ maxLen) (hl : zs.length = n) (h : ByB w w.heap.size A zs) :
    Calls Try.prog 35 #[.slice A n c] w fun e w' => e = .returned (.pointer (some ⟨w.heap.size, 0, none⟩)) ∧ Hid (SrcX w' w.heap.size A n c zs 0 (n % 1000)) ∧ Below w.heap.size w w' := by
  unfold maxLen at hn
  go_enter Try.func35, Try.ntmps35
  go_wp2
  have e1 : (n : Int) % 1000 = ((n % 1000 : Nat) : Int) := by omega
  rw [e1]
  refine bodyPost_ret (v := .pointer (some ⟨w.heap.size, 0, none⟩)) (by simp [results, Try.results35, go_sem]) rfl ?_
  have hb := alloc_below w (.cells #[.slice A n c, .int .i64 0, .int .i64 ((n % 1000 : Nat) : Int)] 80)
  exact ⟨rfl, Lib.hid ⟨Box.new _ _ _, Nat.lt_of_lt_of_le (Nat.mod_lt _ (by omega)) (by omega), hl, h.btw (Btw.of_below hb w.heap.size (w.heap.size + 1)) (Nat.le_refl _)⟩, hb⟩

set_option maxRecDepth 100000 in
theorem srcNew (A : Option Addr) (n c : Nat) (zs : List Nat) (w : World) (hn : n ≤ maxLen) (hl : zs.length = n) (h : ByB w w.heap.size A zs) :
    Calls Try.prog 35 #[.slice A n c] w fun e w' => e = .returned (.pointer (some ⟨w.heap.size, 0, none⟩)) ∧ Hid (Src w' w.heap.size A n c zs 0) ∧ Below w.heap.size w w' := by
  refine (srcNewX A n c zs w hn hl h).mono ?_
  rintro e w' ⟨rfl, h2, h3⟩
  exact ⟨rfl, Lib.hid (h2.out.src (Nat.le_refl _)), h3⟩
end Go.Proofs.Ythobepmlopegbaa
