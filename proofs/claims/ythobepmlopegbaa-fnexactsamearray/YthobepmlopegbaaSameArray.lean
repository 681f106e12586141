/- Contracts of l04Same and both SameArray. -/
import Derived.Test.YthobepmlopegbaaSameFlash
namespace Go.Proofs.Ythobepmlopegbaa
open Go.RowKit

set_option maxRecDepth 100000 in
set_option maxHeartbeats 1000000 in
theorem l04Same (A A' C C' : Option Addr) (n n' m m' c c' d d' : Nat) (st st' : Int) (zs zs' : List Int) (gs gs' : List Bool) (w : World)
    (hl : zs.length = n) (hl' : zs'.length = n') (hm : gs.length = m) (hm' : gs'.length = m') (hn : n ≤ maxLen) (hn' : n' ≤ maxLen) (gn : m ≤ maxLen) (gn' : m' ≤ maxLen)
    (h : IntL w A zs) (h' : IntL w A' zs') (g : BoolL w C gs) (g' : BoolL w C' gs') :
    Calls Try.prog 46 #[.agg #[.slice A n c, .slice C m d, .int .i64 st], .agg #[.slice A' n' c', .slice C' m' d', .int .i64 st']] w fun e w' => e = .returned (.bool (sameArr zs zs' gs gs')) ∧ Below w.heap.size w w' := by
  have H1 := Lib.hid (fun W hb => specSame A A' C C' n n' m m' c c' d d' st st zs zs' gs gs' W hl hl' hm hm' hn hn' gn gn' (h.below hb) (h'.below hb) (g.below hb) (g'.below hb))
  obtain ⟨W0, hW0⟩ : ∃ W0, W0 = ((w.alloc (.cells #[.slice A n c, .slice C m d, .int .i64 st] 26)).alloc (.cells #[.slice A' n' c', .slice C' m' d', .int .i64 st] 26)) := ⟨_, rfl⟩
  have hb0 : Below w.heap.size w W0 := by rw [hW0]; exact ((Below.refl _ _).alloc (Nat.le_refl _) _).alloc (by simp) _
  have HW0 := Lib.hid hW0
  have HR : Hid (sameFl zs zs' gs gs' st st = sameArr zs zs' gs gs') := Lib.hid (by unfold sameFl sameArr; simp)
  rw [HR.out] at H1
  generalize sameArr zs zs' gs gs' = r at H1
  clear hl hl' hm hm' hn hn' gn gn' h h' g g' hW0 HR
  go_enter Try.func46, Try.ntmps46
  go_wp2_with fail
  rw [← HW0.out]
  refine (H1.out _ hb0).mono ?_
  rintro e w1 ⟨rfl, hb1⟩
  go_wp2
  go_ret
  exact ⟨rfl, bt hb0 hb1⟩

/-- What SameArray answers. -/
def sameArrC (zs zs' : List Int) (gs gs' : List Bool) (st st' : Int) : Bool × Int := if okFlash zs gs st && okFlash zs' gs' st' then (sameArr zs zs' gs gs', 0) else (false, 1)

set_option maxRecDepth 100000 in
set_option maxHeartbeats 2000000 in
theorem implSameArray (A A' C C' : Option Addr) (n n' m m' c c' d d' : Nat) (st st' : Int) (zs zs' : List Int) (gs gs' : List Bool) (w : World)
    (hl : zs.length = n) (hl' : zs'.length = n') (hm : gs.length = m) (hm' : gs'.length = m') (hn : n ≤ maxLen) (hn' : n' ≤ maxLen) (gn : m ≤ maxLen) (gn' : m' ≤ maxLen)
    (h : IntL w A zs) (h' : IntL w A' zs') (g : BoolL w C gs) (g' : BoolL w C' gs') :
    Calls Try.prog 14 #[.agg #[.slice A n c, .slice C m d, .int .i64 st], .agg #[.slice A' n' c', .slice C' m' d', .int .i64 st']] w fun e w' => e = .returned (.tuple #[.bool (sameArrC zs zs' gs gs' st st').1, .int .i64 (sameArrC zs zs' gs gs' st st').2]) ∧ Below w.heap.size w w' := by
  have HV := Lib.hid (fun W hb => flashValid A C n c m d st zs gs W hl hm hn gn (h.below hb))
  have HV' := Lib.hid (fun W hb => flashValid A' C' n' c' m' d' st' zs' gs' W hl' hm' hn' gn' (h'.below hb))
  have H1 := Lib.hid (fun W hb => sameArray A A' C C' n n' m m' c c' d d' st st' zs zs' gs gs' W hl hl' hm hm' hn hn' gn gn' (h.below hb) (h'.below hb) (g.below hb) (g'.below hb))
  obtain ⟨W0, hW0⟩ : ∃ W0, W0 = ((w.alloc (.cells #[.slice A n c, .slice C m d, .int .i64 st] 26)).alloc (.cells #[.slice A' n' c', .slice C' m' d', .int .i64 st'] 26)) := ⟨_, rfl⟩
  have hb0 : Below w.heap.size w W0 := by rw [hW0]; exact ((Below.refl _ _).alloc (Nat.le_refl _) _).alloc (by simp) _
  have X0 : Hid (Box W0 w.heap.size 26 #[.slice A n c, .slice C m d, .int .i64 st]) := Lib.hid (by rw [hW0]; exact (Box.new _ _ _).alloc _)
  have Y0 : Hid (Box W0 (w.heap.size + 1) 26 #[.slice A' n' c', .slice C' m' d', .int .i64 st']) := Lib.hid (by rw [hW0]; simpa using Box.new (w.alloc (.cells #[.slice A n c, .slice C m d, .int .i64 st] 26)) 26 #[.slice A' n' c', .slice C' m' d', .int .i64 st'])
  have HW0 := Lib.hid hW0
  have HR : Hid (sameArrC zs zs' gs gs' st st' = if okFlash zs gs st && okFlash zs' gs' st' then (sameArr zs zs' gs gs', 0) else (false, 1)) := Lib.hid rfl
  generalize sameArrC zs zs' gs gs' st st' = r at HR
  generalize sameArr zs zs' gs gs' = q1 at H1 HR
  generalize okFlash zs gs st = ok at HV HR
  generalize okFlash zs' gs' st' = ok' at HV' HR
  clear hl hl' hm hm' hn hn' gn gn' h h' g g' hW0
  go_enter Try.func14, Try.ntmps14
  go_wp2_with fail
  rw [← HW0.out]
  refine (HV.out _ hb0).mono ?_
  rintro e w1 ⟨rfl, hb1⟩
  have X1 := Lib.hid (X0.out.step hb1)
  have Y1 := Lib.hid (Y0.out.step hb1)
  have hb := bt hb0 hb1
  clear X0 Y0 HW0 hb0 hb1
  cases ok
  · go_wp2
    refine bodyPost_ret (v := .tuple #[.bool false, .int .i64 1]) (by simp [results, Try.results14, go_sem]) rfl ?_
    exact ⟨by rw [HR.out]; rfl, hb⟩
  · have f0 := Y1.out.cell 0 rfl
    have f1 := Y1.out.cell 1 rfl
    have f2 := Y1.out.cell 2 rfl
    go_wp2_with fail
    refine (HV'.out _ hb).mono ?_
    rintro e w2 ⟨rfl, hb2⟩
    have X2 := Lib.hid (X1.out.step hb2)
    have Y2 := Lib.hid (Y1.out.step hb2)
    have hb3 := bt hb hb2
    clear X1 Y1 hb hb2 f0 f1 f2
    cases ok'
    · go_wp2
      refine bodyPost_ret (v := .tuple #[.bool false, .int .i64 1]) (by simp [results, Try.results14, go_sem]) rfl ?_
      exact ⟨by rw [HR.out]; rfl, hb3⟩
    · have f0 := Y2.out.cell 0 rfl
      have f1 := Y2.out.cell 1 rfl
      have f2 := Y2.out.cell 2 rfl
      have g0 := X2.out.cell 0 rfl
      have g1 := X2.out.cell 1 rfl
      have g2 := X2.out.cell 2 rfl
      go_wp2_with fail
      refine (H1.out _ hb3).mono ?_
      rintro e w4 ⟨rfl, hb4⟩
      go_wp2
      refine bodyPost_ret (v := .tuple #[.bool q1, .int .i64 0]) (by simp [results, Try.results14, go_sem]) rfl ?_
      exact ⟨by rw [HR.out]; rfl, bt hb3 hb4⟩

set_option maxRecDepth 100000 in
set_option maxHeartbeats 2000000 in
theorem specSameArray (A A' C C' : Option Addr) (n n' m m' c c' d d' : Nat) (st st' : Int) (zs zs' : List Int) (gs gs' : List Bool) (w : World)
    (hl : zs.length = n) (hl' : zs'.length = n') (hm : gs.length = m) (hm' : gs'.length = m') (hn : n ≤ maxLen) (hn' : n' ≤ maxLen) (gn : m ≤ maxLen) (gn' : m' ≤ maxLen)
    (h : IntL w A zs) (h' : IntL w A' zs') (g : BoolL w C gs) (g' : BoolL w C' gs') :
    Calls Try.prog 15 #[.agg #[.slice A n c, .slice C m d, .int .i64 st], .agg #[.slice A' n' c', .slice C' m' d', .int .i64 st']] w fun e w' => e = .returned (.tuple #[.bool (sameArrC zs zs' gs gs' st st').1, .int .i64 (sameArrC zs zs' gs gs' st st').2]) ∧ Below w.heap.size w w' := by
  have HV := Lib.hid (fun W hb => specFlashOK A C n c m d st zs gs W hl hm hn gn (h.below hb))
  have HV' := Lib.hid (fun W hb => specFlashOK A' C' n' c' m' d' st' zs' gs' W hl' hm' hn' gn' (h'.below hb))
  have H1 := Lib.hid (fun W hb => l04Same A A' C C' n n' m m' c c' d d' st st' zs zs' gs gs' W hl hl' hm hm' hn hn' gn gn' (h.below hb) (h'.below hb) (g.below hb) (g'.below hb))
  obtain ⟨W0, hW0⟩ : ∃ W0, W0 = ((w.alloc (.cells #[.slice A n c, .slice C m d, .int .i64 st] 26)).alloc (.cells #[.slice A' n' c', .slice C' m' d', .int .i64 st'] 26)) := ⟨_, rfl⟩
  have hb0 : Below w.heap.size w W0 := by rw [hW0]; exact ((Below.refl _ _).alloc (Nat.le_refl _) _).alloc (by simp) _
  have X0 : Hid (Box W0 w.heap.size 26 #[.slice A n c, .slice C m d, .int .i64 st]) := Lib.hid (by rw [hW0]; exact (Box.new _ _ _).alloc _)
  have Y0 : Hid (Box W0 (w.heap.size + 1) 26 #[.slice A' n' c', .slice C' m' d', .int .i64 st']) := Lib.hid (by rw [hW0]; simpa using Box.new (w.alloc (.cells #[.slice A n c, .slice C m d, .int .i64 st] 26)) 26 #[.slice A' n' c', .slice C' m' d', .int .i64 st'])
  have HW0 := Lib.hid hW0
  have HR : Hid (sameArrC zs zs' gs gs' st st' = if okFlash zs gs st && okFlash zs' gs' st' then (sameArr zs zs' gs gs', 0) else (false, 1)) := Lib.hid rfl
  generalize sameArrC zs zs' gs gs' st st' = r at HR
  generalize sameArr zs zs' gs gs' = q1 at H1 HR
  generalize okFlash zs gs st = ok at HV HR
  generalize okFlash zs' gs' st' = ok' at HV' HR
  clear hl hl' hm hm' hn hn' gn gn' h h' g g' hW0
  go_enter Try.func15, Try.ntmps15
  go_wp2_with fail
  rw [← HW0.out]
  refine (HV.out _ hb0).mono ?_
  rintro e w1 ⟨rfl, hb1⟩
  have X1 := Lib.hid (X0.out.step hb1)
  have Y1 := Lib.hid (Y0.out.step hb1)
  have hb := bt hb0 hb1
  clear X0 Y0 HW0 hb0 hb1
  cases ok
  · go_wp2
    refine bodyPost_ret (v := .tuple #[.bool false, .int .i64 1]) (by simp [results, Try.results15, go_sem]) rfl ?_
    exact ⟨by rw [HR.out]; rfl, hb⟩
  · have f0 := Y1.out.cell 0 rfl
    have f1 := Y1.out.cell 1 rfl
    have f2 := Y1.out.cell 2 rfl
    go_wp2_with fail
    refine (HV'.out _ hb).mono ?_
    rintro e w2 ⟨rfl, hb2⟩
    have X2 := Lib.hid (X1.out.step hb2)
    have Y2 := Lib.hid (Y1.out.step hb2)
    have hb3 := bt hb hb2
    clear X1 Y1 hb hb2 f0 f1 f2
    cases ok'
    · go_wp2
      refine bodyPost_ret (v := .tuple #[.bool false, .int .i64 1]) (by simp [results, Try.results15, go_sem]) rfl ?_
      exact ⟨by rw [HR.out]; rfl, hb3⟩
    · have f0 := Y2.out.cell 0 rfl
      have f1 := Y2.out.cell 1 rfl
      have f2 := Y2.out.cell 2 rfl
      have g0 := X2.out.cell 0 rfl
      have g1 := X2.out.cell 1 rfl
      have g2 := X2.out.cell 2 rfl
      go_wp2_with fail
      refine (H1.out _ hb3).mono ?_
      rintro e w4 ⟨rfl, hb4⟩
      go_wp2
      refine bodyPost_ret (v := .tuple #[.bool q1, .int .i64 0]) (by simp [results, Try.results15, go_sem]) rfl ?_
      exact ⟨by rw [HR.out]; rfl, bt hb3 hb4⟩
end Go.Proofs.Ythobepmlopegbaa
