/- The walks of l04Flash and the model's FlashOf. -/
import Derived.Test.YthobepmlopegbaaFlashOfSpec
namespace Go.Proofs.Ythobepmlopegbaa
open Go.RowKit

set_option maxRecDepth 100000 in
set_option maxHeartbeats 8000000 in
theorem l04Flash (A : Option Addr) (c : Nat) (ss : List ByteArray) (w : World) (hl : ss.length = 17) (h : StrL w A ss) :
    Calls Try.prog 60 #[.slice A 17 c] w (GivesL04 ss w) := by
  obtain ⟨B, off, rfl, _⟩ := h 0 (by omega)
  have HA : Hid (∀ W, Below w.heap.size w W → ∀ k, k < 17 → W.cell? ⟨B, off + k, none⟩ = some (.string (ss.getD k ByteArray.empty))) := Lib.hid (by
    intro W hbW k hk
    obtain ⟨B', off', e, hc'⟩ := (h.below hbW) k (by omega)
    injection e with e; injection e with e1 e2
    rw [e1, e2]; exact hc')
  have HL := Lib.hid hl
  have HF : Hid (flashL ss = pairO (cellsP (ss.take 16)) (guardP (ss.getD 16 ByteArray.empty))) := Lib.hid rfl
  have HG4 : Hid (∀ e w', GivesL04 ss w e w' = (((flashL ss = none ∧ e = .returned (.tuple #[.agg #[.slice none 0 0, .slice none 0 0, .int .i64 0], .bool false])) ∨ (∃ z g A c C d, flashL ss = some (z, g) ∧ e = .returned (.tuple #[.agg #[.slice A 256 c, .slice C 16 d, .int .i64 0], .bool true]) ∧ Hid (OwnI w' w.heap.size w'.heap.size A z) ∧ Hid (OwnB w' w.heap.size w'.heap.size C g) ∧ z.length = 256 ∧ g.length = 16)) ∧ Below w.heap.size w w')) := Lib.hid (fun _ _ => rfl)
  have HN := Lib.hid (FL.new w)
  obtain ⟨w1, hw1⟩ : ∃ w1, w1 = ((((w.alloc (.cells #[.slice none 0 0, .slice none 0 0, .int .i64 0] 26)).alloc (.cells #[] 3)).alloc (.cells #[] 4)).alloc (.cells #[.slice (some ⟨w.heap.size + 1, 0, none⟩) 0 0, .slice (some ⟨w.heap.size + 1 + 1, 0, none⟩) 0 0, .int .i64 0] 26)) := ⟨_, rfl⟩
  rw [← hw1] at HN
  have HW1 := Lib.hid hw1
  clear hl h hw1
  go_enter Try.func60, Try.ntmps60
  go_wp2
  rw [← HW1.out]
  clear HW1
  go_loopw [5] (fun i wr => ∃ (k : Nat) (A' : Option Addr) (c' : Nat) (acc : List Int), k ≤ 16 ∧ i = .int .i64 k ∧ Hid (FL w wr A' (16 * k) c' acc (some ⟨w.heap.size + 1 + 1, 0, none⟩) 0 0 []) ∧ Hid (cellsP (ss.take 16) = (cellsP ((ss.take 16).drop k)).map (acc ++ ·))) (fun i _ => 16 - (intOf i).toNat)
  case atStart => exact ⟨0, _, _, [], by omega, rfl, HN, Lib.hid (by simp)⟩
  case round =>
    clear HN
    obtain ⟨k, A', c', acc, hk, rfl, FLk, HT⟩ := hrel
    by_cases hlt : k < 16
    · have hi : (k : Int) < 16 := by omega
      have hc := HA.out _ FLk.out.bel k (by omega)
      have HNx : Hid (cellsP ((ss.take 16).drop k) = match page2 hexL (ss.getD k ByteArray.empty) with | none => none | some a => (cellsP ((ss.take 16).drop (k + 1))).map (a ++ ·)) := Lib.hid (by
        have hk' : k < (ss.take 16).length := by rw [List.length_take, HL.out]; omega
        have e : (ss.take 16)[k]'hk' = ss.getD k ByteArray.empty := by
          rw [List.getElem_take, List.getD_eq_getElem?_getD, List.getElem?_eq_getElem (by rw [HL.out]; omega), Option.getD_some]
        rw [List.drop_eq_getElem_cons hk', cellsP, e]
        cases page2 hexL (ss.getD k ByteArray.empty) <;> rfl)
      have r0 := FLk.out.r.cell 0 rfl
      have r1 := FLk.out.r.cell 1 rfl
      have r2 := FLk.out.r.cell 2 rfl
      have s0 := FLk.out.r.frozen 0
      have s1 := FLk.out.r.frozen 1
      have s2 := FLk.out.r.frozen 2
      generalize hs : ss.getD k ByteArray.empty = s at hc HNx
      have HSk := Lib.hid hs
      clear hs
      by_cases hsz : s.size = 32
      · have hq : ((s.size : Int) != 32) = false := by simp; omega
        have HP : Hid (page2 hexL s = pageNums hexL 2 16 s.data.toList) := Lib.hid (by unfold page2; rw [if_pos hsz])
        have HSz := Lib.hid hsz
        clear hsz r0 r1 r2 s0 s1 s2
        go_wp2
        go_loopw [6] (fun j wr => ∃ (m : Nat) (A' : Option Addr) (c' : Nat) (pre : List Int), m ≤ 16 ∧ j = .int .i64 m ∧ Hid (FL w wr A' (16 * k + m) c' (acc ++ pre) (some ⟨w.heap.size + 1 + 1, 0, none⟩) 0 0 []) ∧ Hid (page2 hexL s = (pageNums hexL 2 (16 - m) (s.data.toList.drop (m * 2))).map (pre ++ ·))) (fun i _ => 16 - (intOf i).toNat)
        case atStart => exact ⟨0, A', c', [], by omega, rfl, by simpa using FLk, Lib.hid (by rw [HP.out]; simp)⟩
        case round =>
          clear FLk hc
          obtain ⟨m, A1, c1, pre, hm, rfl, FLm, HU⟩ := hrel
          have hc := HA.out _ FLm.out.bel k (by omega)
          rw [HSk.out] at hc
          by_cases hmt : m < 16
          · have hj : (m : Int) < 16 := by omega
            have HBy := Lib.hid (byte_at s m HSz.out hmt)
            have HSt := Lib.hid (nums_step s m hmt)
            have HC := Lib.hid (fun W => l04Byte (s.extract (2 * m) (2 * m + 2)) W)
            rw [HBy.out] at HC
            generalize readNum hexL 0 ((s.data.toList.drop (m * 2)).take 2) = o at HC HSt
            have r0 := FLm.out.r.cell 0 rfl
            have r1 := FLm.out.r.cell 1 rfl
            have r2 := FLm.out.r.cell 2 rfl
            have s0 := FLm.out.r.frozen 0
            have s1 := FLm.out.r.frozen 1
            have s2 := FLm.out.r.frozen 2
            have e1 : IntKind.i64.wrap (2 * (m : Int)) = 2 * (m : Int) := IntWalk.i64_in _ (by omega)
            have e2 : IntKind.i64.wrap (2 * (m : Int) + 2) = 2 * (m : Int) + 2 := IntWalk.i64_in _ (by omega)
            have b1 : (0 : Int) ≤ 2 * (m : Int) := by omega
            have b2 : 2 * (m : Int) ≤ 2 * (m : Int) + 2 := by omega
            have b3 : 2 * (m : Int) + 2 ≤ (s.size : Int) := by rw [HSz.out]; omega
            have b4 : (2 * (m : Int)).toNat = 2 * m := by omega
            have b5 : (2 * (m : Int) + 2).toNat = 2 * m + 2 := by omega
            clear HBy
            go_wp2_with fail
            refine (HC.out _).mono ?_
            rintro e w2 ⟨rfl, rfl⟩
            cases o with
            | none =>
              have HFn : Hid (flashL ss = none) := Lib.hid (by
                rw [HF.out]
                refine nonePair (.inl ?_)
                rw [HT.out, HNx.out, HU.out, HSt.out]; rfl)
              have hbz := FLm.out.bel
              simp only [dvV, Option.isSome_none]
              go_wp2
              refine bodyPost_ret (v := .tuple #[.agg #[.slice none 0 0, .slice none 0 0, .int .i64 0], .bool false]) (by simp [results, Try.results60, go_sem, r0, r1, r2]) rfl ?_
              rw [HG4.out]
              exact ⟨.inl ⟨HFn.out, rfl⟩, below3 hbz (Nat.le_refl _) _ _ _⟩
            | some v =>
              simp only [dvV, Option.isSome_some]
              have HU2 : Hid (page2 hexL s = (pageNums hexL 2 (16 - (m + 1)) (s.data.toList.drop ((m + 1) * 2))).map ((pre ++ [(v : Int)]) ++ ·)) := Lib.hid (by rw [HU.out, HSt.out]; simp only; rw [optmap_app])
              have f0 := FLm.out.f.cell 0 rfl
              obtain ⟨ap, hap⟩ : ∃ ap, ap = acc ++ pre := ⟨_, rfl⟩
              rw [← hap] at FLm
              have HAP := Lib.hid hap
              clear hap
              have HBa : Hid (Below wr.heap.size wr (wr.alloc (.cells #[.int .i64 (v : Int)] 3))) := Lib.hid (alloc_below _ _)
              have FL2 := Lib.hid (FLm.out.step HBa.out)
              have HNw : Hid (∀ i u, [Value.int .i64 (v : Int)][i]? = some u → (wr.alloc (.cells #[.int .i64 (v : Int)] 3)).cell? ⟨wr.heap.size, i, none⟩ = some u) := Lib.hid (fun i u hi => by
                match i, hi with
                | 0, hi => simp at hi; subst hi; exact (Box.new wr 3 #[.int .i64 (v : Int)]).cell 0 rfl)
              have hszr := FLm.out.size
              clear FLm HU HSt r0 r1 r2 s0 s1 s2 hc b1 b2 b3 b4 b5
              go_wp2_with (at_builtin; refine wpList_app_one rfl (.tmp 47) (.tmp 49) 23 3 rfl (.int .i64 0) 1 8 elemInt Try.underlying23 (w.heap.size + 1) (.slice A1 (16 * k + m) c1) (16 * k + m) (ap.map (Value.int .i64)) rfl ?hown wr.heap.size 1 rfl [.int .i64 (v : Int)] rfl ?hnews ?hone ?h63 ?hby ?hbase ?_)
              case hown => exact FL2.out.i
              case hnews => exact HNw.out
              case hone => intro u hu; simp at hu; subst hu; rfl
              case h63 => unfold maxLen; omega
              case hby => omega
              case hbase => have := HBa.out.size; omega
              intro A2 c2 w3 hR3 hc3 hg3 hb3
              have F3 := FL2.out.f.grown FL2.out.i (by decide) hg3
              have g0 := F3.cell 0 rfl
              have g0z := F3.frozen 0
              have FL3 := Lib.hid (FL2.out.int hR3 hg3 hb3)
              clear hR3 hc3 hg3 hb3 FL2 HBa HNw F3 f0 hszr
              go_wp2
              go_roundw
              case rel => first | exact ⟨m + 1, A2, c2, pre ++ [(v : Int)], by omega, by go_num, by rw [← List.append_assoc, ← Nat.add_assoc, ← HAP.out]; exact FL3, HU2⟩ | ((repeat apply Exists.intro); exact ⟨⟨m + 1, A2, c2, pre ++ [(v : Int)], by omega, by go_num, by rw [← List.append_assoc, ← Nat.add_assoc, ← HAP.out]; exact FL3, HU2⟩, rfl⟩)
              case measure => simp [intOf]; omega
          · obtain rfl : m = 16 := by omega
            have HU3 : Hid (page2 hexL s = some pre) := Lib.hid (by rw [HU.out]; simp [pageNums])
            have HT3 : Hid (cellsP (ss.take 16) = (cellsP ((ss.take 16).drop (k + 1))).map ((acc ++ pre) ++ ·)) := Lib.hid (by rw [HT.out, HNx.out, HU3.out]; simp only; rw [optmap_app2])
            clear HU
            go_wp2
            exact ⟨⟨k + 1, A1, c1, acc ++ pre, by omega, by go_num, by rw [show 16 * (k + 1) = 16 * k + 16 by omega]; exact FLm, HT3⟩, by simp [intOf]; omega⟩
      · have hq : ((s.size : Int) != 32) = true := by simp; omega
        have HFn : Hid (flashL ss = none) := Lib.hid (by
          rw [HF.out]
          refine nonePair (.inl ?_)
          rw [HT.out, HNx.out]
          have : page2 hexL s = none := by unfold page2; rw [if_neg hsz]
          rw [this]; rfl)
        have hbz := FLk.out.bel
        clear hsz
        go_wp2
        refine bodyPost_ret (v := .tuple #[.agg #[.slice none 0 0, .slice none 0 0, .int .i64 0], .bool false]) (by simp [results, Try.results60, go_sem, r0, r1, r2]) rfl ?_
        rw [HG4.out]
        exact ⟨.inl ⟨HFn.out, rfl⟩, below3 hbz (Nat.le_refl _) _ _ _⟩
    · obtain rfl : k = 16 := by omega
      have HZ : Hid (cellsP (ss.take 16) = some acc) := Lib.hid (by rw [HT.out, List.drop_eq_nil_of_le (by rw [List.length_take]; omega)]; simp [cellsP])
      have hc := HA.out _ FLk.out.bel 16 (by omega)
      have r0 := FLk.out.r.cell 0 rfl
      have r1 := FLk.out.r.cell 1 rfl
      have r2 := FLk.out.r.cell 2 rfl
      have s0 := FLk.out.r.frozen 0
      have s1 := FLk.out.r.frozen 1
      have s2 := FLk.out.r.frozen 2
      generalize hs : ss.getD 16 ByteArray.empty = s at hc HF
      have HSk := Lib.hid hs
      clear hs HT
      by_cases hsz : s.size = 16
      · have hq : ((s.size : Int) != 16) = false := by simp; omega
        have HSz := Lib.hid hsz
        have HGz := Lib.hid (guardFrom_zero s hsz)
        clear hsz r0 r1 r2 s0 s1 s2
        go_wp2
        go_loopw [9] (fun j wr => ∃ (m : Nat) (C' : Option Addr) (d' : Nat) (gs : List Bool), m ≤ 16 ∧ j = .int .i64 m ∧ Hid (FL w wr A' 256 c' acc C' m d' gs) ∧ Hid (guardP s = (guardFrom s m).map (gs ++ ·))) (fun i _ => 16 - (intOf i).toNat)
        case atStart => exact ⟨0, _, _, [], by omega, rfl, FLk, Lib.hid (by rw [HGz.out]; simp)⟩
        case round =>
          clear FLk hc
          obtain ⟨m, C1, d1, gs, hm, rfl, FLm, HU⟩ := hrel
          have hc := HA.out _ FLm.out.bel 16 (by omega)
          rw [HSk.out] at hc
          have r0 := FLm.out.r.cell 0 rfl
          have r1 := FLm.out.r.cell 1 rfl
          have r2 := FLm.out.r.cell 2 rfl
          have s0 := FLm.out.r.frozen 0
          have s1 := FLm.out.r.frozen 1
          have s2 := FLm.out.r.frozen 2
          by_cases hmt : m < 16
          · have hj : (m : Int) < 16 := by omega
            have hm2 : m < s.size := by rw [HSz.out]; exact hmt
            have HSt := Lib.hid (guardFrom_step s m hmt HSz.out)
            have ix : ∀ W, (Instr.index 9 (.string s) (.int .i64 (m : Int))).run Try.prog W = .ok (.int .u8 ((s[m]'hm2).toNat : Int)) W := fun W => by
              rw [run_index_string W 9 _ .i64 (m : Int) Try.underlying9, dif_pos ⟨by omega, by omega⟩]; rfl
            generalize s[m]'hm2 = b at HSt ix
            have f1 := FLm.out.f.cell 1 rfl
            by_cases h8 : b.toNat = 48 ∨ b.toNat = 49
            · have HU2 : Hid (guardP s = (guardFrom s (m + 1)).map ((gs ++ [decide (b.toNat = 49)]) ++ ·)) := Lib.hid (by
                rw [HU.out, HSt.out, if_pos h8, Option.map_map]
                congr 1
                funext x
                simp)
              have qe : ((b.toNat : Int) == 49) = decide (b.toNat = 49) := by rw [Bool.eq_iff_iff]; simp; omega
              generalize decide (b.toNat = 49) = v at HU2 qe
              have HBa : Hid (Below wr.heap.size wr (wr.alloc (.cells #[.bool v] 4))) := Lib.hid (alloc_below _ _)
              have FL2 := Lib.hid (FLm.out.step HBa.out)
              have HNw : Hid (∀ i u, [Value.bool v][i]? = some u → (wr.alloc (.cells #[.bool v] 4)).cell? ⟨wr.heap.size, i, none⟩ = some u) := Lib.hid (fun i u hi => by
                match i, hi with
                | 0, hi => simp at hi; subst hi; exact (Box.new wr 4 #[.bool v]).cell 0 rfl)
              have hszr := FLm.out.size
              have H8 := Lib.hid h8
              have q8 : (((b.toNat : Int) != 48) = true ∧ ((b.toNat : Int) != 49) = false) ∨ ((b.toNat : Int) != 48) = false := by
                rcases h8 with h8 | h8
                · right; simp; omega
                · left; constructor <;> simp <;> omega
              clear FLm HU HSt r0 r1 r2 s0 s1 s2 h8
              rcases q8 with ⟨q1, q2⟩ | q1
              · go_wp2_with (at_builtin; refine wpList_app_one rfl (.tmp 75) (.tmp 78) 24 4 rfl (.bool false) 1 1 elemBool Try.underlying24 (w.heap.size + 1) (.slice C1 m d1) m (gs.map Value.bool) rfl ?hown wr.heap.size 1 rfl [.bool v] rfl ?hnews ?hone ?h63 ?hby ?hbase ?_)
                case hown => exact FL2.out.b
                case hnews => exact HNw.out
                case hone => intro u hu; simp at hu; subst hu; rfl
                case h63 => unfold maxLen; omega
                case hby => omega
                case hbase => have := HBa.out.size; omega
                intro A2 c2 w3 hR3 hc3 hg3 hb3
                have F3 := FL2.out.f.grown FL2.out.b (by decide) hg3
                have g0 := F3.cell 1 rfl
                have g0z := F3.frozen 1
                have FL3 := Lib.hid (FL2.out.bool hR3 hg3 hb3)
                clear hR3 hc3 hg3 hb3 FL2 HBa HNw F3 f1 hszr
                go_wp2
                go_roundw
                case rel => first | exact ⟨m + 1, A2, c2, gs ++ [v], by omega, by go_num, FL3, HU2⟩ | ((repeat apply Exists.intro); exact ⟨⟨m + 1, A2, c2, gs ++ [v], by omega, by go_num, FL3, HU2⟩, rfl⟩)
                case measure => simp [intOf]; omega
              · go_wp2_with (at_builtin; refine wpList_app_one rfl (.tmp 75) (.tmp 78) 24 4 rfl (.bool false) 1 1 elemBool Try.underlying24 (w.heap.size + 1) (.slice C1 m d1) m (gs.map Value.bool) rfl ?hown wr.heap.size 1 rfl [.bool v] rfl ?hnews ?hone ?h63 ?hby ?hbase ?_)
                case hown => exact FL2.out.b
                case hnews => exact HNw.out
                case hone => intro u hu; simp at hu; subst hu; rfl
                case h63 => unfold maxLen; omega
                case hby => omega
                case hbase => have := HBa.out.size; omega
                intro A2 c2 w3 hR3 hc3 hg3 hb3
                have F3 := FL2.out.f.grown FL2.out.b (by decide) hg3
                have g0 := F3.cell 1 rfl
                have g0z := F3.frozen 1
                have FL3 := Lib.hid (FL2.out.bool hR3 hg3 hb3)
                clear hR3 hc3 hg3 hb3 FL2 HBa HNw F3 f1 hszr
                go_wp2
                go_roundw
                case rel => first | exact ⟨m + 1, A2, c2, gs ++ [v], by omega, by go_num, FL3, HU2⟩ | ((repeat apply Exists.intro); exact ⟨⟨m + 1, A2, c2, gs ++ [v], by omega, by go_num, FL3, HU2⟩, rfl⟩)
                case measure => simp [intOf]; omega
            · have q1 : ((b.toNat : Int) != 48) = true := by simp; omega
              have q2 : ((b.toNat : Int) != 49) = true := by simp; omega
              have HFn : Hid (flashL ss = none) := Lib.hid (by
                rw [HF.out]
                refine nonePair (.inr ?_)
                rw [HU.out, HSt.out, if_neg h8]; rfl)
              have hbz := FLm.out.bel
              clear h8
              go_wp2
              refine bodyPost_ret (v := .tuple #[.agg #[.slice none 0 0, .slice none 0 0, .int .i64 0], .bool false]) (by simp [results, Try.results60, go_sem, r0, r1, r2]) rfl ?_
              rw [HG4.out]
              exact ⟨.inl ⟨HFn.out, rfl⟩, below3 hbz (Nat.le_refl _) _ _ _⟩
          · obtain rfl : m = 16 := by omega
            have HFn : Hid (flashL ss = some (acc, gs)) := Lib.hid (by rw [HF.out, HZ.out, HU.out, guardFrom_end]; simp [pairO])
            have f0 := FLm.out.f.cell 0 rfl
            have f1 := FLm.out.f.cell 1 rfl
            have f2 := FLm.out.f.cell 2 rfl
            have hbz := FLm.out.bel
            have HOi : Hid (OwnI wr w.heap.size wr.heap.size A' acc) := Lib.hid (GroI.own (by unfold GroI; rw [FLm.out.len]; exact FLm.out.i) (by omega))
            have HOb : Hid (OwnB wr w.heap.size wr.heap.size C1 gs) := Lib.hid (GroB.own (by unfold GroB; rw [FLm.out.lem]; exact FLm.out.b) (by omega))
            have HX := Lib.hid FLm.out.r
            have HLn := Lib.hid (And.intro FLm.out.len FLm.out.lem)
            clear FLm HU
            go_wp2
            refine bodyPost_ret (v := .tuple #[.agg #[.slice A' 256 c', .slice C1 16 d1, .int .i64 0], .bool true]) (by simp [results, Try.results60, go_sem, r0, r1, r2]) rfl ?_
            rw [HG4.out]
            exact ⟨.inr ⟨acc, gs, A', c', C1, d1, HFn.out, rfl, Lib.hid (by rw [size3]; exact HOi.out.far3 HX.out _ _ _), Lib.hid (by rw [size3]; exact HOb.out.far3 HX.out _ _ _), HLn.out.1, HLn.out.2⟩, below3 hbz (Nat.le_refl _) _ _ _⟩
      · have hq : ((s.size : Int) != 16) = true := by simp; omega
        have HFn : Hid (flashL ss = none) := Lib.hid (by
          rw [HF.out]
          refine nonePair (.inr ?_)
          unfold guardP page1
          rw [if_neg hsz]; rfl)
        have hbz := FLk.out.bel
        clear hsz
        go_wp2
        refine bodyPost_ret (v := .tuple #[.agg #[.slice none 0 0, .slice none 0 0, .int .i64 0], .bool false]) (by simp [results, Try.results60, go_sem, r0, r1, r2]) rfl ?_
        rw [HG4.out]
        exact ⟨.inl ⟨HFn.out, rfl⟩, below3 hbz (Nat.le_refl _) _ _ _⟩

theorem flashOf_of (ss : List ByteArray) (h : pagesC ss = 0) : flashOf ss = match flashL ss with | some p => (p.1, p.2, 0) | none => ([], [], 3) := by
  unfold flashOf flashL
  rw [if_neg (by rw [h]; decide)]
  cases cellsP (ss.take 16) <;> cases guardP (ss.getD 16 ByteArray.empty) <;> rfl

set_option maxRecDepth 100000 in
set_option maxHeartbeats 4000000 in
theorem specFlashOfW (A : Option Addr) (n c : Nat) (ss : List ByteArray) (w : World) (hl : ss.length = n) (hn : n ≤ maxLen) (h : StrL w A ss) (fs : FitS ss) :
    Calls Try.prog 30 #[.slice A n c] w (GivesFlashOf ss w) := by
  have hb0 := alloc_below w (.cells #[.slice none 0 0, .slice none 0 0, .int .i64 0] 26)
  have X0 := Lib.hid (Box.new w 26 #[.slice none 0 0, .slice none 0 0, .int .i64 0])
  have HC := Lib.hid (fun W (hb : Below w.heap.size w W) => l02Pages A n c ss W hl hn (h.below hb) fs)
  by_cases hbig : 4096 < n
  · have hq : (4096 : Int) < (n : Int) := by omega
    have HN : Hid (flashOf ss = ([], [], 2)) := Lib.hid (by
      have : pagesC ss = 2 := by unfold pagesC; rw [if_pos (by rw [hl]; exact hbig)]
      unfold flashOf; rw [if_pos (by rw [this]; decide), this])
    unfold maxLen at hn
    clear hbig h fs hl HC
    go_enter Try.func30, Try.ntmps30
    go_wp2
    refine bodyPost_ret (v := .tuple #[.agg #[.slice none 0 0, .slice none 0 0, .int .i64 0], .int .i64 2]) (by simp [results, Try.results30, go_sem]) rfl ?_
    exact givesNo HN.out hb0
  · have hq : ¬ (4096 : Int) < (n : Int) := by omega
    by_cases hp : pagesC ss = 0
    · have hlen := pagesC_len hp
      obtain rfl : n = 17 := by omega
      rw [hp] at HC
      have HR := Lib.hid (fun W (hb : Below w.heap.size w W) => l04Flash A c ss W hlen (h.below hb))
      have HF := Lib.hid (flashOf_of ss hp)
      clear hp hlen hl hn h fs hbig
      go_enter Try.func30, Try.ntmps30
      go_wp2_with fail
      refine (HC.out _ hb0).mono ?_
      rintro e w1 ⟨rfl, rfl⟩
      go_wp2_with fail
      refine (HR.out _ hb0).mono ?_
      rintro e w2 ⟨hres, hb2⟩
      have X2 := Lib.hid (X0.out.step hb2)
      have hbz := bt hb0 hb2
      have hlt2 : w.heap.size < w2.heap.size := X2.out.lt
      rcases hres with ⟨hpz, rfl⟩ | ⟨z, g, A2, c2, C2, d2, hpz, rfl, O2, O3, hzl, hgl⟩
      · have HN : Hid (flashOf ss = ([], [], 3)) := Lib.hid (by rw [HF.out, hpz])
        have x0 := X2.out.cell 0 rfl
        have x1 := X2.out.cell 1 rfl
        have x2 := X2.out.cell 2 rfl
        have y0 := X2.out.frozen 0
        have y1 := X2.out.frozen 1
        have y2 := X2.out.frozen 2
        have hne : w.heap.size ≠ w2.heap.size := by omega
        clear hpz
        go_wp2
        have Y := (((X2.out.set 0 (.slice none 0 0)).set 1 (.slice none 0 0)).set 2 (.int .i64 0)).alloc (.cells #[.slice none 0 0, .slice none 0 0, .int .i64 0] 26)
        have z0 := Y.cell 0 (v := .slice none 0 0) rfl
        have z1 := Y.cell 1 (v := .slice none 0 0) rfl
        have z2 := Y.cell 2 (v := .int .i64 0) rfl
        refine bodyPost_ret (v := .tuple #[.agg #[.slice none 0 0, .slice none 0 0, .int .i64 0], .int .i64 3]) (by simp [results, Try.results30, go_sem, z0, z1, z2]) rfl ?_
        refine givesNo HN.out ?_
        exact bt (below3 hbz (Nat.le_refl _) _ _ _) (alloc_below _ _)
      · have HN : Hid (flashOf ss = (z, g, 0)) := Lib.hid (by rw [HF.out, hpz])
        have x0 := X2.out.cell 0 rfl
        have x1 := X2.out.cell 1 rfl
        have x2 := X2.out.cell 2 rfl
        have y0 := X2.out.frozen 0
        have y1 := X2.out.frozen 1
        have y2 := X2.out.frozen 2
        have hne : w.heap.size ≠ w2.heap.size := by omega
        have HO2 := Lib.hid (O2.out.wideB hb0.size (Nat.le_refl _))
        have HO3 := Lib.hid (O3.out.wide hb0.size (Nat.le_refl _))
        have HZl := Lib.hid hzl
        have HGl := Lib.hid hgl
        clear hpz O2 O3 hzl hgl
        go_wp2
        have Y := (((X2.out.set 0 (.slice A2 256 c2)).set 1 (.slice C2 16 d2)).set 2 (.int .i64 0)).alloc (.cells #[.slice A2 256 c2, .slice C2 16 d2, .int .i64 0] 26)
        have z0 := Y.cell 0 (v := .slice A2 256 c2) rfl
        have z1 := Y.cell 1 (v := .slice C2 16 d2) rfl
        have z2 := Y.cell 2 (v := .int .i64 0) rfl
        refine bodyPost_ret (v := .tuple #[.agg #[.slice A2 256 c2, .slice C2 16 d2, .int .i64 0], .int .i64 0]) (by simp [results, Try.results30, go_sem, z0, z1, z2]) rfl ?_
        unfold GivesFlashOf
        rw [HN.out]
        simp only
        rw [HZl.out, HGl.out]
        refine ⟨A2, C2, c2, d2, rfl, Lib.hid ?_, bt (below3 hbz (Nat.le_refl _) _ _ _) (alloc_below _ _)⟩
        have q1 := HO2.out.far3 X2.out (.slice A2 256 c2) (.slice C2 16 d2) (.int .i64 0)
        have q2 := HO3.out.far3 X2.out (.slice A2 256 c2) (.slice C2 16 d2) (.int .i64 0)
        have q3 := ownIB (c := c2) (d := d2) q1 q2
        rw [HZl.out, HGl.out] at q3
        exact (q3.below (alloc_below _ _)).wide (Nat.le_refl _) (by simp [World.setCell])
    · have HN : Hid (flashOf ss = ([], [], pagesC ss)) := Lib.hid (by unfold flashOf; rw [if_pos hp])
      have hq2 : (pagesC ss != 0) = true := by simp [hp]
      generalize pagesC ss = pc at HC HN hq2
      unfold maxLen at hn
      clear hp hl h fs hbig
      go_enter Try.func30, Try.ntmps30
      go_wp2_with fail
      refine (HC.out _ hb0).mono ?_
      rintro e w1 ⟨rfl, rfl⟩
      go_wp2
      refine bodyPost_ret (v := .tuple #[.agg #[.slice none 0 0, .slice none 0 0, .int .i64 0], .int .i64 pc]) (by simp [results, Try.results30, go_sem]) rfl ?_
      exact givesNo HN.out hb0
set_option maxRecDepth 100000 in
theorem specFlashOfA (A0 : Option Addr) (c0 : Nat) (d0 : List ByteArray) (w : World) (h : RepA w [.slice A0 d0.length c0] [.S d0]) (_cp : CapA [.slice A0 d0.length c0]) (z : szA [.S d0] ≤ 1048576) :
    Calls Try.prog 30 #[.slice A0 d0.length c0] w (fun e w' => ∃ rA0 rA1 rc0 rc1, e = .returned (.tuple #[.agg #[.slice rA0 (flashOf d0).1.length rc0, .slice rA1 (flashOf d0).2.1.length rc1, .int .i64 (flashSt d0)], .int .i64 (flashOf d0).2.2]) ∧ Hid (OwnA w' w.heap.size w'.heap.size [.slice rA0 (flashOf d0).1.length rc0, .slice rA1 (flashOf d0).2.1.length rc1] [.I (flashOf d0).1, .B (flashOf d0).2.1]) ∧ Below w.heap.size w w') :=
  specFlashOfW A0 _ c0 d0 w rfl (by simp only [szA, Lf.sz] at z; unfold maxLen; omega) (repS h.1) (fit_of_sz z)
end Go.Proofs.Ythobepmlopegbaa
