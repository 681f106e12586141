/- For every two flashes (of any size, valid or not), laws.FnExactSameArray returns true: impl.SameArray answers as the model spec.SameArray and leaves its arguments alone. No condition. -/
import Derived.Test.YthobepmlopegbaaSameArray
import Derived.Test.YthobepmlopegbaaOpenFlash
import Derived.Test.YthobepmlopegbaaFactA
import Derived.Test.YthobepmlopegbaaFactB
import Derived.Test.YthobepmlopegbaaFactC
import Derived.Test.YthobepmlopegbaaFactD
import Derived.Deep.RegionHeld3
import Derived.ProofKit
import Derived.OpenShut
import Derived.ShutString
import Derived.ChangeOld
namespace Go.Proofs.Ythobepmlopegbaa.fnExactSameArray
open Go.RowKit

set_option maxRecDepth 100000 in
set_option maxHeartbeats 8000000 in
theorem walk (A : Option Addr) (n c : Nat) (C : Option Addr) (m d : Nat) (st : Int) (zs : List Int) (gs : List Bool) (A' : Option Addr) (n' c' : Nat) (C' : Option Addr) (m' d' : Nat) (st' : Int) (zs' : List Int) (gs' : List Bool) (w : World)
    (hl : zs.length = n) (hm : gs.length = m) (hn : n ≤ maxLen) (hmm : m ≤ maxLen) (h : IntL w A zs) (g : BoolL w C gs) (_ws : (Lit.int .i64 st).wf = true)
    (hl' : zs'.length = n') (hm' : gs'.length = m') (hn' : n' ≤ maxLen) (hmm' : m' ≤ maxLen) (h' : IntL w A' zs') (g' : BoolL w C' gs') (_ws' : (Lit.int .i64 st').wf = true) :
    Calls Try.prog 7 #[.agg #[.slice A n c, .slice C m d, .int .i64 st], .agg #[.slice A' n' c', .slice C' m' d', .int .i64 st']] w fun e w' => e = .returned (.bool true) ∧ Below w.heap.size w w' := by
  have HSz := Lib.hid (fun W (_ : Below w.heap.size w W) => szFlash A C n c m d st 1048576 W hn hmm (by omega) (by omega))
  have HSz' := Lib.hid (fun l W (h0 : 0 ≤ l) (h1 : l ≤ 1048576) (_ : Below w.heap.size w W) => szFlash A' C' n' c' m' d' st' l W hn' hmm' h0 h1)
  have HTo := Lib.hid (fun W (hb : Below w.heap.size w W) (h1 : n ≤ 1048576) (h2 : m ≤ 1048576) => toFlash A C n c m d st zs gs W hl hm h1 h2 (h.below hb) (g.below hb))
  have HTo' := Lib.hid (fun W (hb : Below w.heap.size w W) (h1 : n' ≤ 1048576) (h2 : m' ≤ 1048576) => toFlash A' C' n' c' m' d' st' zs' gs' W hl' hm' h1 h2 (h'.below hb) (g'.below hb))
  have HL := Lib.hid (And.intro hl hm)
  have HL' := Lib.hid (And.intro hl' hm')
  clear hl hm hn hmm h g _ws hl' hm' hn' hmm' h' g' _ws'
  go_enter Try.func7, Try.ntmps7
  go_wp2_with fail
  obtain ⟨W0, hW0⟩ : ∃ W0, W0 = ((w.alloc (.cells #[.slice A n c, .slice C m d, .int .i64 st] 42)).alloc (.cells #[.slice A' n' c', .slice C' m' d', .int .i64 st'] 42)) := ⟨_, rfl⟩
  have hb0 : Below w.heap.size w W0 := by rw [hW0]; exact ((Below.refl _ _).alloc (Nat.le_refl _) _).alloc (by simp) _
  have X0 : Box W0 w.heap.size 42 #[.slice A n c, .slice C m d, .int .i64 st] := by rw [hW0]; exact (Box.new _ _ _).alloc _
  have Y0 : Box W0 (w.heap.size + 1) 42 #[.slice A' n' c', .slice C' m' d', .int .i64 st'] := by rw [hW0]; simpa using Box.new (w.alloc (.cells #[.slice A n c, .slice C m d, .int .i64 st] 42)) 42 #[.slice A' n' c', .slice C' m' d', .int .i64 st']
  rw [← hW0]
  clear hW0
  refine (HSz.out _ hb0).mono ?_
  rintro e w1 ⟨hres, hb1⟩
  have X1 := X0.step hb1
  have Y1 := Y0.step hb1
  have hb1' := bt hb0 hb1
  clear hb0 X0 Y0 HSz hb1
  rcases hres with rfl | ⟨rfl, hle⟩
  · clear X1 Y1
    go_wp2
    go_ret
    exact ⟨rfl, hb1'⟩
  have hsz : n + m ≤ 1048576 := by omega
  generalize n + m = u at hle
  have hp : ¬ (1048576 : Int) - (u : Int) < 0 := by omega
  have f0 : w1.cell? ⟨w.heap.size + 1, 0, none⟩ = some (.slice A' n' c') := Y1.cell 0 rfl
  have f1 : w1.cell? ⟨w.heap.size + 1, 1, none⟩ = some (.slice C' m' d') := Y1.cell 1 rfl
  have f1x : w1.cell? ⟨w.heap.size + 1, 2, none⟩ = some (.int .i64 st') := Y1.cell 2 rfl
  have HX1 := Lib.hid (And.intro X1 Y1)
  clear X1 Y1
  go_wp2_with fail
  refine (HSz'.out ((1048576 : Int) - (u : Int)) _ (by omega) (by omega) hb1').mono ?_
  rintro e w2 ⟨hres, hb2⟩
  have hb2' := bt hb1' hb2
  have HX2 := Lib.hid (And.intro (HX1.out.1.step hb2) (HX1.out.2.step hb2))
  clear f0 f1 f1x HX1 hb1' hb2 HSz'
  rcases hres with rfl | ⟨rfl, hle'⟩
  · go_wp2
    go_ret
    exact ⟨rfl, hb2'⟩
  have hsz' : n' + m' ≤ 1048576 := by omega
  generalize n' + m' = u' at hle'
  have hp' : ¬ (1048576 : Int) - (u : Int) - (u' : Int) < 0 := by omega
  have f0 : w2.cell? ⟨w.heap.size, 0, none⟩ = some (.slice A n c) := HX2.out.1.cell 0 rfl
  have f1 : w2.cell? ⟨w.heap.size, 1, none⟩ = some (.slice C m d) := HX2.out.1.cell 1 rfl
  have f1x : w2.cell? ⟨w.heap.size, 2, none⟩ = some (.int .i64 st) := HX2.out.1.cell 2 rfl
  have f2 : w2.cell? ⟨w.heap.size + 1, 0, none⟩ = some (.slice A' n' c') := HX2.out.2.cell 0 rfl
  have f3 : w2.cell? ⟨w.heap.size + 1, 1, none⟩ = some (.slice C' m' d') := HX2.out.2.cell 1 rfl
  have f3x : w2.cell? ⟨w.heap.size + 1, 2, none⟩ = some (.int .i64 st') := HX2.out.2.cell 2 rfl
  have HK := Lib.hid (fun W' (hb : Below w2.heap.size w2 W') => And.intro ((hb.cell (cell_lt f0)).trans f0) (And.intro ((hb.cell (cell_lt f1)).trans f1) (And.intro ((hb.cell (cell_lt f1x)).trans f1x) (And.intro ((hb.cell (cell_lt f2)).trans f2) (And.intro ((hb.cell (cell_lt f3)).trans f3) ((hb.cell (cell_lt f3x)).trans f3x))))))
  have h6 : Below w2.heap.size w2 w2.drew := (Below.refl _ _).drew
  go_wp2
  go_region_held3 (fun W => W.cell? ⟨w.heap.size, 0, none⟩ = some (.slice A n c) ∧ W.cell? ⟨w.heap.size, 1, none⟩ = some (.slice C m d) ∧ W.cell? ⟨w.heap.size, 2, none⟩ = some (.int .i64 st) ∧ W.cell? ⟨w.heap.size + 1, 0, none⟩ = some (.slice A' n' c') ∧ W.cell? ⟨w.heap.size + 1, 1, none⟩ = some (.slice C' m' d') ∧ W.cell? ⟨w.heap.size + 1, 2, none⟩ = some (.int .i64 st'))
    (first | exact HK.out _ h6 | exact HK.out _ (bt h6 hb3) | exact HK.out _ (bt (bt h6 hb3) hb4) | exact HK.out _ (bt (bt (bt h6 hb3) hb4) hb5))
    (first | (go_at_call 22; have _t := hb3; refine (HTo'.out _ (bt hb2' (bt h6 hb3)) (by omega) (by omega)).mono ?_; rintro e w4 ⟨A4, n4, c4, C4, m4, d4, rfl, L4, M4, S4, R4, hb4⟩) | (go_at_call 22; refine (HTo.out _ hb2'.drew (by omega) (by omega)).mono ?_; rintro e w3 ⟨A3, n3, c3, C3, m3, d3, rfl, L3, M3, S3, R3, hb3⟩) | (go_at_call 15; refine (specSameArray A3 A4 C3 C4 n3 n4 m3 m4 c3 c4 d3 d4 st st' zs zs' gs gs' w4 L3.out L4.out M3.out M4.out (by have := L3.out; have := HL.out.1; unfold maxLen; omega) (by have := L4.out; have := HL'.out.1; unfold maxLen; omega) (by have := M3.out; have := HL.out.2; unfold maxLen; omega) (by have := M4.out; have := HL'.out.2; unfold maxLen; omega) (S3.out.below hb4).reads S4.out.reads (R3.out.below hb4).reads R4.out.reads).mono ?_; rintro e w5 ⟨rfl, hb5⟩))
  have k5 : Below w2.heap.size w2 w5 := bt (bt (bt h6 hb3) hb4) hb5
  have hb5' := bt hb2' k5
  have HX5 := Lib.hid (And.intro (HX2.out.1.step k5) (HX2.out.2.step k5))
  clear f0 f1 f1x f2 f3 f3x HK h6 HX2 hb2' k5 hb3 hb4 hb5 L3 L4 M3 M4 S3 S4 R3 R4
  generalize hres : sameArrC zs zs' gs gs' st st' = obc
  obtain ⟨ob, oc⟩ := obc
  simp only at *
  have HRes := Lib.hid hres
  clear hres
  have f0 : w5.cell? ⟨w.heap.size, 0, none⟩ = some (.slice A n c) := HX5.out.1.cell 0 rfl
  have f1 : w5.cell? ⟨w.heap.size, 1, none⟩ = some (.slice C m d) := HX5.out.1.cell 1 rfl
  have f1x : w5.cell? ⟨w.heap.size, 2, none⟩ = some (.int .i64 st) := HX5.out.1.cell 2 rfl
  go_wp2_with fail
  refine (HTo.out _ hb5' (by omega) (by omega)).mono ?_
  rintro e w6 ⟨A6, n6, c6, C6, m6, d6, rfl, L6, M6, S6, R6, hb6⟩
  have hba := (Below.refl w6.heap.size w6).alloc (Nat.le_refl _) (.cells #[.slice A6 n6 c6, .slice C6 m6 d6, .int .i64 st] 26)
  have k6 := bt hb6 hba
  have hb7' := bt hb5' k6
  have HX7 := Lib.hid (And.intro (HX5.out.1.step k6) (HX5.out.2.step k6))
  have HZ7 := Lib.hid (Box.new w6 26 #[.slice A6 n6 c6, .slice C6 m6 d6, .int .i64 st])
  have HS7 := Lib.hid (S6.out.below hba)
  have HR7 := Lib.hid (R6.out.below hba)
  obtain ⟨w7, hw7⟩ : ∃ w7, w7 = w6.alloc (.cells #[.slice A6 n6 c6, .slice C6 m6 d6, .int .i64 st] 26) := ⟨_, rfl⟩
  rw [← hw7] at hb7' HX7 HZ7 HS7 HR7
  have f2 : w7.cell? ⟨w.heap.size + 1, 0, none⟩ = some (.slice A' n' c') := HX7.out.2.cell 0 rfl
  have f3 : w7.cell? ⟨w.heap.size + 1, 1, none⟩ = some (.slice C' m' d') := HX7.out.2.cell 1 rfl
  have f3x : w7.cell? ⟨w.heap.size + 1, 2, none⟩ = some (.int .i64 st') := HX7.out.2.cell 2 rfl
  rw [hw7] at f2 f3 f3x
  have HW7 := Lib.hid hw7
  clear hw7 f0 f1 f1x HX5 hb5' S6 R6 hba k6 hb6
  go_wp2_with fail
  rw [← HW7.out]
  refine (HTo'.out w7 hb7' (by omega) (by omega)).mono ?_
  rintro e w8 ⟨A8, n8, c8, C8, m8, d8, rfl, L8, M8, S8, R8, hb8⟩
  have hba := (Below.refl w8.heap.size w8).alloc (Nat.le_refl _) (.cells #[.slice A8 n8 c8, .slice C8 m8 d8, .int .i64 st'] 26)
  have k8 := bt hb8 hba
  have hb9' := bt hb7' k8
  have HX9 := Lib.hid (And.intro (HX7.out.1.step k8) (HX7.out.2.step k8))
  have HY9 := Lib.hid (HZ7.out.step k8)
  have HZ9 := Lib.hid (Box.new w8 26 #[.slice A8 n8 c8, .slice C8 m8 d8, .int .i64 st'])
  have HS9 := Lib.hid (HS7.out.below k8)
  have HR9 := Lib.hid (HR7.out.below k8)
  have HT9 := Lib.hid (S8.out.below hba)
  have HU9 := Lib.hid (R8.out.below hba)
  obtain ⟨w9, hw9⟩ : ∃ w9, w9 = w8.alloc (.cells #[.slice A8 n8 c8, .slice C8 m8 d8, .int .i64 st'] 26) := ⟨_, rfl⟩
  rw [← hw9] at hb9' HX9 HY9 HZ9 HS9 HR9 HT9 HU9
  have f0 : w9.cell? ⟨w6.heap.size, 0, none⟩ = some (.slice A6 n6 c6) := HY9.out.cell 0 rfl
  have f1 : w9.cell? ⟨w6.heap.size, 1, none⟩ = some (.slice C6 m6 d6) := HY9.out.cell 1 rfl
  have f1x : w9.cell? ⟨w6.heap.size, 2, none⟩ = some (.int .i64 st) := HY9.out.cell 2 rfl
  rw [hw9] at f0 f1 f1x
  have HW9 := Lib.hid hw9
  clear hw9 f2 f3 f3x HX7 HZ7 HS7 HR7 hb7' S8 R8 hba k8 hb8 HW7
  have B6 : n6 ≤ maxLen ∧ m6 ≤ maxLen := by have := L6.out; have := M6.out; have := HL.out.1; have := HL.out.2; unfold maxLen; omega
  have B8 : n8 ≤ maxLen ∧ m8 ≤ maxLen := by have := L8.out; have := M8.out; have := HL'.out.1; have := HL'.out.2; unfold maxLen; omega
  have HB := Lib.hid (And.intro B6 B8)
  clear B6 B8
  go_wp2_with fail
  rw [← HW9.out]
  refine (implSameArray A6 A8 C6 C8 n6 n8 m6 m8 c6 c8 d6 d8 st st' zs zs' gs gs' w9 L6.out L8.out M6.out M8.out HB.out.1.1 HB.out.2.1 HB.out.1.2 HB.out.2.2 HS9.out.reads HT9.out.reads HR9.out.reads HU9.out.reads).mono ?_
  rintro e wa ⟨rfl, hba⟩
  rw [HRes.out]
  have hba' := bt hb9' hba
  have HXa := Lib.hid (And.intro (And.intro (HX9.out.1.step hba) (HX9.out.2.step hba)) (And.intro (HY9.out.step hba) (HZ9.out.step hba)))
  have HSa := Lib.hid (And.intro (And.intro (HS9.out.below hba) (HR9.out.below hba)) (And.intro (HT9.out.below hba) (HU9.out.below hba)))
  clear f0 f1 f1x HX9 HY9 HZ9 HS9 HR9 HT9 HU9 hb9' hba HW9
  have hob : (ob != ob) = false := by simp
  have hoc : (oc != oc) = false := by simp
  have f0 : wa.cell? ⟨w.heap.size, 0, none⟩ = some (.slice A n c) := HXa.out.1.1.cell 0 rfl
  have f1 : wa.cell? ⟨w.heap.size, 1, none⟩ = some (.slice C m d) := HXa.out.1.1.cell 1 rfl
  have f1x : wa.cell? ⟨w.heap.size, 2, none⟩ = some (.int .i64 st) := HXa.out.1.1.cell 2 rfl
  have f2 : wa.cell? ⟨w6.heap.size, 0, none⟩ = some (.slice A6 n6 c6) := HXa.out.2.1.cell 0 rfl
  have f3 : wa.cell? ⟨w6.heap.size, 1, none⟩ = some (.slice C6 m6 d6) := HXa.out.2.1.cell 1 rfl
  have f3x : wa.cell? ⟨w6.heap.size, 2, none⟩ = some (.int .i64 st) := HXa.out.2.1.cell 2 rfl
  have HK := Lib.hid (fun W' (hb : Below wa.heap.size wa W') => And.intro ((hb.cell (cell_lt f0)).trans f0) (And.intro ((hb.cell (cell_lt f1)).trans f1) (And.intro ((hb.cell (cell_lt f1x)).trans f1x) (And.intro ((hb.cell (cell_lt f2)).trans f2) (And.intro ((hb.cell (cell_lt f3)).trans f3) ((hb.cell (cell_lt f3x)).trans f3x))))))
  have h6 : Below wa.heap.size wa wa.drew := (Below.refl _ _).drew
  go_wp2
  go_region_held3 (fun W => W.cell? ⟨w.heap.size, 0, none⟩ = some (.slice A n c) ∧ W.cell? ⟨w.heap.size, 1, none⟩ = some (.slice C m d) ∧ W.cell? ⟨w.heap.size, 2, none⟩ = some (.int .i64 st) ∧ W.cell? ⟨w6.heap.size, 0, none⟩ = some (.slice A6 n6 c6) ∧ W.cell? ⟨w6.heap.size, 1, none⟩ = some (.slice C6 m6 d6) ∧ W.cell? ⟨w6.heap.size, 2, none⟩ = some (.int .i64 st))
    (first | exact HK.out _ h6 | exact HK.out _ (bt h6 hbb) | exact HK.out _ (bt (bt h6 hbb) hbc))
    (first | (go_at_call 22; refine (HTo.out _ hba'.drew (by omega) (by omega)).mono ?_; rintro e wb ⟨A7, n7, c7, C7, m7, d7, rfl, L7, M7, S7, R7, hbb⟩) | (go_at_call 24; refine (eqFlashSame A6 A7 C6 C7 n6 n7 m6 m7 c6 c7 d6 d7 st zs gs wb L6.out L7.out M6.out M7.out HB.out.1.1 HB.out.1.2 (HSa.out.1.1.below (bt h6 hbb)).reads S7.out.reads (HSa.out.1.2.below (bt h6 hbb)).reads R7.out.reads).mono ?_; rintro e wc ⟨rfl, hbc⟩))
  have kc : Below wa.heap.size wa wc := bt (bt h6 hbb) hbc
  have hbc' := bt hba' kc
  have g0 : wc.cell? ⟨w.heap.size + 1, 0, none⟩ = some (.slice A' n' c') := (HXa.out.1.2.step kc).cell 0 rfl
  have g1 : wc.cell? ⟨w.heap.size + 1, 1, none⟩ = some (.slice C' m' d') := (HXa.out.1.2.step kc).cell 1 rfl
  have g1x : wc.cell? ⟨w.heap.size + 1, 2, none⟩ = some (.int .i64 st') := (HXa.out.1.2.step kc).cell 2 rfl
  have g2 : wc.cell? ⟨w8.heap.size, 0, none⟩ = some (.slice A8 n8 c8) := (HXa.out.2.2.step kc).cell 0 rfl
  have g3 : wc.cell? ⟨w8.heap.size, 1, none⟩ = some (.slice C8 m8 d8) := (HXa.out.2.2.step kc).cell 1 rfl
  have g3x : wc.cell? ⟨w8.heap.size, 2, none⟩ = some (.int .i64 st') := (HXa.out.2.2.step kc).cell 2 rfl
  have HSc := Lib.hid (And.intro (HSa.out.2.1.below kc) (HSa.out.2.2.below kc))
  clear f0 f1 f1x f2 f3 f3x HK h6 hbb hbc L7 M7 S7 R7 HXa HSa hba' kc
  have HK := Lib.hid (fun W' (hb : Below wc.heap.size wc W') => And.intro ((hb.cell (cell_lt g0)).trans g0) (And.intro ((hb.cell (cell_lt g1)).trans g1) (And.intro ((hb.cell (cell_lt g1x)).trans g1x) (And.intro ((hb.cell (cell_lt g2)).trans g2) (And.intro ((hb.cell (cell_lt g3)).trans g3) ((hb.cell (cell_lt g3x)).trans g3x))))))
  have h6 : Below wc.heap.size wc wc.drew := (Below.refl _ _).drew
  go_wp2
  go_region_held3 (fun W => W.cell? ⟨w.heap.size + 1, 0, none⟩ = some (.slice A' n' c') ∧ W.cell? ⟨w.heap.size + 1, 1, none⟩ = some (.slice C' m' d') ∧ W.cell? ⟨w.heap.size + 1, 2, none⟩ = some (.int .i64 st') ∧ W.cell? ⟨w8.heap.size, 0, none⟩ = some (.slice A8 n8 c8) ∧ W.cell? ⟨w8.heap.size, 1, none⟩ = some (.slice C8 m8 d8) ∧ W.cell? ⟨w8.heap.size, 2, none⟩ = some (.int .i64 st'))
    (first | exact HK.out _ h6 | exact HK.out _ (bt h6 hbd) | exact HK.out _ (bt (bt h6 hbd) hbe))
    (first | (go_at_call 22; refine (HTo'.out _ hbc'.drew (by omega) (by omega)).mono ?_; rintro e wd ⟨A7, n7, c7, C7, m7, d7, rfl, L7, M7, S7, R7, hbd⟩) | (go_at_call 24; refine (eqFlashSame A8 A7 C8 C7 n8 n7 m8 m7 c8 c7 d8 d7 st' zs' gs' wd L8.out L7.out M8.out M7.out HB.out.2.1 HB.out.2.2 (HSc.out.1.below (bt h6 hbd)).reads S7.out.reads (HSc.out.2.below (bt h6 hbd)).reads R7.out.reads).mono ?_; rintro e we ⟨rfl, hbe⟩))
  go_wp2
  go_ret
  exact ⟨rfl, bt hbc' (bt (bt h6 hbd) hbe)⟩



/-! The row's step. -/
open Go.ChangeShapes Go.WideShapes Go.ChangeAt
open Go.ChangeMaps (open_string shut_string)
set_option maxRecDepth 100000 in
theorem own : ownKnob Try.prog.godebug = none := by kernel_rfl
set_option maxRecDepth 100000 in
theorem laidOut : laidOutB Try.prog = true := factLaid
set_option maxRecDepth 100000 in
theorem lifted (os : Os) (started : os.Started) (H : Type) (enc : TypeId × Value → H) :
    ReturnsInHanded {} Try.checked os 7 .any (Rows.fnExactSameArraySpec.pre6 enc Try.prog Try.f7 Rows.fnExactSameArrayRow.domain false) (Rows.fnExactSameArraySpec.post enc Try.prog Try.f7 false true false false) := by
  refine returnsInHanded_of_change (C := Try.checked) own started (by kernel_rfl) Try.func7
    (ChangeSpec.witness6 (enc := enc) (C := Try.checked) false ⟨#[], #[.agg #[.slice none 0 0, .slice none 0 0, .int .i64 0], .agg #[.slice none 0 0, .slice none 0 0, .int .i64 0]], []⟩ 8 (by kernel_rfl) (by kernel_rfl) (by kernel_rfl) (by kernel_rfl)) ?_
  intro W base args ds gs before hval0 hW hcnd _
  have hval : ∀ (j : Nat) t v, Try.f7.params[j]? = some t → args[j]? = some v → Value.okWide Try.prog W .any base t v := hval0
  have hW' := hW
  obtain ⟨p, q, hA0, hV, rfl, hfz, hnd⟩ := hW
  have hA : DataW.TrodAll enc Try.prog W 0 (fun _ => true) true Try.f7.params.toList args.toList ds p := hA0
  rw [Try.params7] at hA hval
  obtain ⟨v0, vs0, d0, ds0, p0, q0, hargs, rfl, rfl, h0, r0⟩ := trodAll_cons hA
  obtain ⟨v1, vs1, d1, ds1, p1, q1, rfl, rfl, rfl, h1, r1⟩ := trodAll_cons r0
  obtain ⟨rfl, rfl, rfl⟩ := trodAll_nil r1
  obtain rfl : args = #[v0, v1] := by cases args; simp_all
  obtain ⟨rfl, rfl⟩ := trodVars_none hV
  have k0 := h0
  have lt0 : ∀ x ∈ p0, x.block < W.heap.size := by obtain ⟨m, hm⟩ := k0; exact DataW.trod_lt m _ _ _ hm
  obtain ⟨A0, n0, c0, C0, m0, e0, st0, zs0, gs0, rfl, hl0, hm0, hn0, hmm0, hs0, hw0, ws0⟩ := open_flash (hval 0 42 v0 rfl rfl) h0
  have k1 := h1
  have lt1 : ∀ x ∈ p1, x.block < W.heap.size := by obtain ⟨m, hm⟩ := k1; exact DataW.trod_lt m _ _ _ hm
  obtain ⟨A1, n1, c1, C1, m1, e1, st1, zs1, gs1, rfl, hl1, hm1, hn1, hmm1, hs1, hw1, ws1⟩ := open_flash (hval 1 42 v1 rfl rfl) h1
  clear hA0 hval0
  refine (walk A0 n0 c0 C0 m0 e0 st0 zs0 gs0 A1 n1 c1 C1 m1 e1 st1 zs1 gs1 W hl0 hm0 hn0 hmm0 hs0 hw0 ws0 hl1 hm1 hn1 hmm1 hs1 hw1 ws1).mono fun e W' ⟨he, bel⟩ => ?_
  subst he
  exact ⟨_, rfl, _, _, _, [], _, [], hW', trodAll_mk1 (shut_bool Try.underlying4 _), (trodAll_cons_mk (Below.trod laidOut (by kernel_rfl) (of_decide_eq_true (by kernel_rfl)) k0 bel lt0) (trodAll_cons_mk (Below.trod laidOut (by kernel_rfl) (of_decide_eq_true (by kernel_rfl)) k1 bel lt1) trodAll_mk0)), rfl, bel.frame _, fun h => by cases h⟩

theorem k0 : (Rows.fnExactSameArrayRow.wf (OpenSpec.ofChange Rows.fnExactSameArraySpec)) = true := by kernel_rfl
set_option maxRecDepth 100000 in
theorem k3 : (Try.f7.params.all (Try.prog.readableRec ·)) = true := by kernel_rfl
set_option maxRecDepth 100000 in
theorem k4 : (namedTie Try.prog Rows.fnExactSameArrayRow.named Rows.fnExactSameArraySpec.vars) = true := by kernel_rfl
theorem k5 : ((Rows.fnExactSameArrayRow.stops == [])) = true := by kernel_rfl
set_option maxRecDepth 100000 in
theorem k6 : ((Try.prog.stops == [])) = true := by kernel_rfl
theorem k7 : ((Rows.fnExactSameArrayRow.knobs == [])) = true := by kernel_rfl
set_option maxRecDepth 100000 in
theorem k8 : ((Try.prog.stopKnobs == [])) = true := by kernel_rfl
set_option maxRecDepth 100000 in
theorem k9 : ((Rows.fnExactSameArrayRow.inPlace == Try.prog.inPlace 7)) = true := by kernel_rfl
set_option maxRecDepth 100000 in
theorem k10 : ((Rows.fnExactSameArrayRow.unfollowed == Try.prog.unfollowed 7)) = true := by kernel_rfl
set_option maxRecDepth 100000 in
theorem k11 : ((Rows.fnExactSameArrayRow.recurses == Try.prog.recurses 7)) = true := by kernel_rfl
set_option maxRecDepth 100000 in
theorem k12 : ((Rows.fnExactSameArrayRow.named == Try.prog.varsNamed 7)) = true := by kernel_rfl
set_option maxRecDepth 100000 in
theorem k13 : ((Rows.fnExactSameArrayRow.maps == (Try.f7.params.toList ++ Rows.fnExactSameArraySpec.plain.varTypes Try.prog).any (Try.prog.mapsRec ·))) = true := by kernel_rfl
set_option maxRecDepth 100000 in
theorem k14 : ((Rows.fnExactSameArrayRow.ifaces == (Try.f7.params.toList ++ Rows.fnExactSameArraySpec.plain.varTypes Try.prog).any (Try.prog.ifacesRec ·))) = true := by kernel_rfl
set_option maxRecDepth 100000 in
theorem k15 : ((Rows.fnExactSameArrayRow.mapsOut == Try.prog.mapsAmong Try.f7.resultTypes.toList)) = true := by kernel_rfl
set_option maxRecDepth 100000 in
theorem k16 : ((Rows.fnExactSameArrayRow.loops == (Try.f7.params.toList ++ Rows.fnExactSameArraySpec.plain.varTypes Try.prog).any (Try.prog.loopsFrom ·))) = true := by kernel_rfl
set_option maxRecDepth 100000 in
theorem k17 : ((Rows.fnExactSameArrayRow.wideKeys == (Try.f7.params.toList ++ Rows.fnExactSameArraySpec.plain.varTypes Try.prog ++ Try.f7.resultTypes.toList).any (Try.prog.wideKeysFrom ·))) = true := by kernel_rfl
set_option maxRecDepth 100000 in
theorem k18 : (Rows.fnExactSameArraySpec.vars.all (Try.prog.varReadable ·)) = true := by kernel_rfl
set_option maxRecDepth 100000 in
theorem k19 : (Try.f7.resultTypes.all (fun t => Try.prog.readableRec t && decide (t < Try.prog.types.size))) = true := by kernel_rfl
set_option maxRecDepth 100000 in
theorem k20 : ((Rows.fnExactSameArrayRow.ifacesOut == Try.f7.resultTypes.toList.any (Try.prog.ifacesRec ·))) = true := by kernel_rfl
set_option maxRecDepth 100000 in
theorem k21 : ((Rows.fnExactSameArrayRow.loopsOut == Try.f7.resultTypes.toList.any (Try.prog.loopsFrom ·))) = true := by kernel_rfl
set_option maxRecDepth 100000 in
theorem k22 : ((Rows.fnExactSameArrayRow.plainKeys == Try.prog.plainKeys)) = true := by kernel_rfl
theorem k23 : (Rows.fnExactSameArrayRow.shortTexts.isNone) = true := by kernel_rfl
set_option maxRecDepth 100000 in
theorem k28 : ((Rows.fnExactSameArrayRow.kinds == (if Rows.fnExactSameArrayRow.domain.isEmpty then [] else Try.f7.params.toList.map fun t => match Try.prog.underlying t with | some (.int k) => some k | _ => none))) = true := by kernel_rfl
theorem k29 : ((Rows.fnExactSameArrayRow.pinned == Rows.fnExactSameArrayRow.pinnedBy)) = true := by kernel_rfl
set_option maxRecDepth 100000 in
theorem k30 : ((Rows.fnExactSameArrayRow.veiled == (Try.f7.params.toList ++ Rows.fnExactSameArraySpec.plain.varTypes Try.prog ++ Try.f7.resultTypes.toList).any (Try.prog.veiledRec ·))) = true := by kernel_rfl
set_option maxRecDepth 100000 in
theorem k31 : (Rows.fnExactSameArrayRow.veiledFits Try.prog Try.f7.params.toList (Try.f7.params.toList ++ Rows.fnExactSameArraySpec.plain.varTypes Try.prog ++ Try.f7.resultTypes.toList)) = true := by kernel_rfl
set_option maxRecDepth 100000 in
theorem facts : joinedFacts Try.prog 7 Try.f7 Rows.fnExactSameArraySpec Rows.fnExactSameArrayRow = true := (and_mk (and_mk (and_mk (and_mk (and_mk (and_mk (and_mk (and_mk (and_mk (and_mk (and_mk (and_mk (and_mk (and_mk (and_mk (and_mk (and_mk (and_mk (and_mk (and_mk (and_mk (and_mk (and_mk (and_mk (and_mk (and_mk (and_mk (and_mk (and_mk (and_mk (and_mk k0 factLaid) factRowed) k3) k4) k5) k6) k7) k8) k9) k10) k11) k12) k13) k14) k15) k16) k17) k18) k19) k20) k21) k22) k23) factHeard) factEnter) factLift) factMake) k28) k29) k30) k31)
set_option maxRecDepth 100000 in
theorem named : Try.prog.funcNamed Rows.fnExactSameArrayRow.func = some 7 := by kernel_rfl
set_option maxRecDepth 100000 in
theorem inst : Try.f7.isInstance Try.prog Rows.fnExactSameArrayRow.origin Rows.fnExactSameArrayRow.targs := of_decide_eq_true (by kernel_rfl)
set_option maxRecDepth 100000 in
theorem over : Rows.fnExactSameArrayRow.holds Try.pinned (OpenSpec.ofChange Rows.fnExactSameArraySpec) :=
  OpenClaim.holds_of_wide 7 Try.f7 rfl rfl rfl rfl rfl rfl rfl ⟨rfl, rfl, rfl, rfl, rfl⟩ rfl rfl rfl rfl rfl named Try.func7 facts
    inst (by unfold Func.isWrapper; first | (rw [if_pos (by decide +kernel)]; kernel_rfl) | (rw [if_neg (by decide +kernel)]; exact ⟨rfl, rfl⟩))
    (fun os started H enc _ => lifted os started H enc)
theorem proved : Rows.FnExactSameArraySaid := over
#print axioms proved
end Go.Proofs.Ythobepmlopegbaa.fnExactSameArray
