/- Contracts of szFlash, toFlash, eqFlash, markFlash, heldFlash; a flash behind a box. -/
import Derived.Test.YtieljgoodmoacaaBools
namespace Go.Proofs.Ytieljgoodmoacaa
open Go.RowKit

/-- Block b holds this flash; its rows lie from lo on and below hi. -/
structure BF (w : World) (b lo hi : Nat) (A : Option Addr) (n c : Nat) (C : Option Addr) (m d : Nat) (st : Int) (zs : List Int) (gs : List Bool) : Prop where
  box : Box w b 43 #[.slice A n c, .slice C m d, .int .i64 st]
  s : OwnI w lo hi A zs
  r : OwnB w lo hi C gs
section
variable {w w' : World} {b lo hi : Nat} {A : Option Addr} {n c : Nat} {C : Option Addr} {m d : Nat} {st : Int} {zs : List Int} {gs : List Bool}
theorem BF.step (h : BF w b lo hi A n c C m d st zs gs) (hb : Below w.heap.size w w') : BF w' b lo hi A n c C m d st zs gs := ⟨h.box.step hb, h.s.below hb, h.r.below hb⟩
theorem BF.btw {l r : Nat} (h : BF w b lo hi A n c C m d st zs gs) (hb : Btw l r w w') (h1 : b < l ∨ r ≤ b) (h2 : hi ≤ l ∨ r ≤ lo) : BF w' b lo hi A n c C m d st zs gs := ⟨h.box.btw hb h1, h.s.btw hb h2, h.r.btw hb h2⟩
theorem BF.new (hs : OwnI w lo hi A zs) (hr : OwnB w lo hi C gs) : BF (w.alloc (.cells #[.slice A n c, .slice C m d, .int .i64 st] 43)) w.heap.size lo hi A n c C m d st zs gs :=
  ⟨Box.new _ _ _, hs.below (alloc_below w _), hr.below (alloc_below w _)⟩
theorem BF.f0 (h : BF w b lo hi A n c C m d st zs gs) : w.cell? ⟨b, 0, none⟩ = some (.slice A n c) := h.box.cell 0 rfl
theorem BF.f1 (h : BF w b lo hi A n c C m d st zs gs) : w.cell? ⟨b, 1, none⟩ = some (.slice C m d) := h.box.cell 1 rfl
theorem BF.f2 (h : BF w b lo hi A n c C m d st zs gs) : w.cell? ⟨b, 2, none⟩ = some (.int .i64 st) := h.box.cell 2 rfl
end

/-- The call hands back a flash of its own. -/
def GivesFlash (zs : List Int) (gs : List Bool) (st : Int) (w : World) (e : Ending) (w' : World) : Prop :=
  ∃ A n c C m d, e = .returned (.agg #[.slice A n c, .slice C m d, .int .i64 st]) ∧ Hid (zs.length = n) ∧ Hid (gs.length = m) ∧ Hid (OwnI w' w.heap.size w'.heap.size A zs) ∧ Hid (OwnB w' w.heap.size w'.heap.size C gs) ∧ Below w.heap.size w w'
/-- The same, and the capacity of its cells is no less than their number. -/
def GivesFlashC (zs : List Int) (gs : List Bool) (st : Int) (w : World) (e : Ending) (w' : World) : Prop :=
  ∃ A n c C m d, e = .returned (.agg #[.slice A n c, .slice C m d, .int .i64 st]) ∧ Hid (zs.length = n) ∧ Hid (gs.length = m) ∧ Hid (OwnI w' w.heap.size w'.heap.size A zs) ∧ Hid (OwnB w' w.heap.size w'.heap.size C gs) ∧ Hid (n ≤ c) ∧ Below w.heap.size w w'
theorem GivesFlashC.plain {zs : List Int} {gs : List Bool} {st : Int} {w : World} {e : Ending} {w' : World} : GivesFlashC zs gs st w e w' → GivesFlash zs gs st w e w' := by
  rintro ⟨A, n, c, C, m, d, h, L, M, S, R, _, hb⟩
  exact ⟨A, n, c, C, m, d, h, L, M, S, R, hb⟩
/-- The call hands back a flash of its own and a code. -/
def GivesFlashCode (zs : List Int) (gs : List Bool) (st code : Int) (w : World) (e : Ending) (w' : World) : Prop :=
  ∃ A n c C m d, e = .returned (.tuple #[.agg #[.slice A n c, .slice C m d, .int .i64 st], .int .i64 code]) ∧ Hid (zs.length = n) ∧ Hid (gs.length = m) ∧ Hid (OwnI w' w.heap.size w'.heap.size A zs) ∧ Hid (OwnB w' w.heap.size w'.heap.size C gs) ∧ Below w.heap.size w w'

set_option maxRecDepth 100000 in
theorem szFlash (A C : Option Addr) (n c m d : Nat) (st left : Int) (w : World) (hn : n ≤ maxLen) (hmm : m ≤ maxLen) (h0 : 0 ≤ left) (h1 : left ≤ 1048576) :
    Calls Try.prog 40 #[.agg #[.slice A n c, .slice C m d, .int .i64 st], .int .i64 left] w (Left left (n + m) w) := by
  have HS := Lib.hid (fun W => szIntS A n c left W hn h0 h1)
  have HT := Lib.hid (fun l W h0 h1 => szBoolS C m d l W hmm h0 h1)
  have hb0 := alloc_below w (.cells #[.slice A n c, .slice C m d, .int .i64 st] 39)
  have X := Lib.hid (Box.new w 39 #[.slice A n c, .slice C m d, .int .i64 st])
  clear hn hmm
  go_enter Try.func40, Try.ntmps40
  go_wp2_with fail
  refine (HS.out _).mono ?_
  rintro e w1 ⟨hres, hb1⟩
  have f1 := (X.out.step hb1).cell 1 rfl
  have hb := bt hb0 hb1
  clear hb1 X hb0
  rcases hres with rfl | ⟨rfl, hle⟩
  · go_wp2
    go_ret
    exact ⟨.inl rfl, hb⟩
  · have hp : ¬ left - (n : Int) < 0 := by omega
    go_wp2_with fail
    refine (HT.out _ _ (by omega) (by omega)).mono ?_
    rintro e w2 ⟨hres, hb2⟩
    have hb3 := bt hb hb2
    clear hb hb2 f1
    rcases hres with rfl | ⟨rfl, hle2⟩
    · go_wp2
      go_ret
      exact ⟨.inl rfl, hb3⟩
    · have hp2 : ¬ left - (n : Int) - (m : Int) < 0 := by omega
      go_wp2
      go_ret
      exact ⟨.inr ⟨ret_int (by omega), by omega⟩, hb3⟩

set_option maxRecDepth 100000 in
set_option maxHeartbeats 2000000 in
theorem toFlashC (A C : Option Addr) (n c m d : Nat) (st : Int) (zs : List Int) (gs : List Bool) (w : World) (hl : zs.length = n) (hm : gs.length = m) (hn : n ≤ 1048576) (hmm : m ≤ 1048576) (h : IntL w A zs) (g : BoolL w C gs) :
    Calls Try.prog 45 #[.agg #[.slice A n c, .slice C m d, .int .i64 st]] w (GivesFlashC zs gs st w) := by
  obtain ⟨W0, hW0⟩ : ∃ W0, W0 = (((w.alloc (.cells #[.slice A n c, .slice C m d, .int .i64 st] 39)).alloc (.cells #[.slice none 0 0, .slice none 0 0, .int .i64 0] 43)).alloc (.cells #[.slice none 0 0, .slice none 0 0, .int .i64 0] 43)) := ⟨_, rfl⟩
  have hs0 : W0.heap.size = w.heap.size + 1 + 1 + 1 := by rw [hW0]; simp
  have hb0 : Below w.heap.size w W0 := by rw [hW0]; exact (((Below.refl _ _).alloc (Nat.le_refl _) _).alloc (by simp) _).alloc (by simp; omega) _
  have X0 : Box W0 w.heap.size 39 #[.slice A n c, .slice C m d, .int .i64 st] := by rw [hW0]; exact ((Box.new _ _ _).alloc _).alloc _
  have X1 : Box W0 (w.heap.size + 1) 43 #[.slice none 0 0, .slice none 0 0, .int .i64 0] := by
    rw [hW0]
    simpa using (Box.new (w.alloc (.cells #[.slice A n c, .slice C m d, .int .i64 st] 39)) 43 #[.slice none 0 0, .slice none 0 0, .int .i64 0]).alloc (.cells #[.slice none 0 0, .slice none 0 0, .int .i64 0] 43)
  have X2 : Box W0 (w.heap.size + 1 + 1) 43 #[.slice none 0 0, .slice none 0 0, .int .i64 0] := by
    rw [hW0]
    simpa using Box.new ((w.alloc (.cells #[.slice A n c, .slice C m d, .int .i64 st] 39)).alloc (.cells #[.slice none 0 0, .slice none 0 0, .int .i64 0] 43)) 43 #[.slice none 0 0, .slice none 0 0, .int .i64 0]
  have HT := Lib.hid (toIntSc A n c zs W0 hl hn (h.below hb0))
  have HU := Lib.hid (fun W (hb : Below w.heap.size w W) => toBoolS C m d gs W hm hmm (g.below hb))
  have HX := Lib.hid (And.intro X0 (And.intro X1 X2))
  have HW0 := Lib.hid hW0
  have HS0 := Lib.hid hs0
  clear hl hm hn hmm h g X0 X1 X2 hW0 hs0
  go_enter Try.func45, Try.ntmps45
  go_wp2_with fail
  rw [← HW0.out]
  refine HT.out.mono ?_
  rintro e w1 ⟨A1, n1, c1, rfl, L1, S1, K1, hb1⟩
  have KC := Lib.hid K1
  clear K1
  have Y0 := HX.out.1.step hb1
  have Y1 := HX.out.2.1.step hb1
  have Y2 := HX.out.2.2.step hb1
  have f1 := Y0.cell 1 rfl
  have f2 := Y2.cell 0 rfl
  have f3 := Y2.frozen 0
  have HZ := Lib.hid (And.intro (Y0.far (p := ⟨w.heap.size + 1 + 1, 0, none⟩) (by show w.heap.size ≠ w.heap.size + 1 + 1; omega) (.slice A1 n1 c1)) (And.intro (Y1.far (p := ⟨w.heap.size + 1 + 1, 0, none⟩) (by show w.heap.size + 1 ≠ w.heap.size + 1 + 1; omega) (.slice A1 n1 c1)) (Y2.set 0 (.slice A1 n1 c1))))
  have HS2 := Lib.hid ((S1.out.wideB hb0.size (Nat.le_refl _)).farB Y2 (by decide) 0 (.slice A1 n1 c1))
  have hb2 : Below w.heap.size w (w1.setCell ⟨w.heap.size + 1 + 1, 0, none⟩ (.slice A1 n1 c1)) := (bt hb0 hb1).setCell (by show w.heap.size ≤ w.heap.size + 1 + 1; omega) _
  have HE1 : Hid (w1.heap.size = (w1.setCell ⟨w.heap.size + 1 + 1, 0, none⟩ (.slice A1 n1 c1)).heap.size) := Lib.hid (by simp [World.setCell])
  rw [HE1.out] at HS2
  clear HX HT HW0 Y0 Y1 Y2 S1 HE1 hb0 hb1
  go_wp2_with fail
  generalize w1.setCell ⟨w.heap.size + 1 + 1, 0, none⟩ (.slice A1 n1 c1) = w2 at HZ HS2 hb2 ⊢
  refine (HU.out w2 hb2).mono ?_
  rintro e w3 ⟨A3, n3, c3, rfl, L3, S3, _, hb3⟩
  have V0 := HZ.out.1.step hb3
  have V1 := HZ.out.2.1.step hb3
  have V2 := HZ.out.2.2.step hb3
  have g0 : w3.cell? ⟨w.heap.size, 2, none⟩ = some (.int .i64 st) := V0.cell 2 rfl
  have g1 : w3.cell? ⟨w.heap.size + 1, 0, none⟩ = some (.slice none 0 0) := V1.cell 0 rfl
  have g2 : w3.cell? ⟨w.heap.size + 1, 1, none⟩ = some (.slice none 0 0) := V1.cell 1 rfl
  have g2' : w3.cell? ⟨w.heap.size + 1, 2, none⟩ = some (.int .i64 0) := V1.cell 2 rfl
  have g3 := V1.frozen 0
  have g4 := V1.frozen 1
  have g4' := V1.frozen 2
  have g5 : w3.cell? ⟨w.heap.size + 1 + 1, 0, none⟩ = some (.slice A1 n1 c1) := V2.cell 0 rfl
  have g6 : w3.cell? ⟨w.heap.size + 1 + 1, 1, none⟩ = some (.slice none 0 0) := V2.cell 1 rfl
  have g6' : w3.cell? ⟨w.heap.size + 1 + 1, 2, none⟩ = some (.int .i64 0) := V2.cell 2 rfl
  have g7 := V2.frozen 1
  have g7' := V2.frozen 2
  have HV := Lib.hid (And.intro V1 V2)
  have HS4 := Lib.hid ((HS2.out.below hb3).wideB (Nat.le_refl _) hb3.size)
  have HS5 := Lib.hid (S3.out.wide hb2.size (Nat.le_refl _))
  have hb4 := bt hb2 hb3
  clear HZ HS2 S3 V0 V1 V2 hb2 hb3 f1 f2 f3
  go_wp2
  refine bodyPost_ret (v := .agg #[.slice A1 n1 c1, .slice A3 n3 c3, .int .i64 st]) (by simp [results, Try.results45, go_sem, g1, g2, g2']) rfl ?_
  have v2 := HV.out.2.set 1 (.slice A3 n3 c3)
  have v1 := (HV.out.1.far (p := ⟨w.heap.size + 1 + 1, 1, none⟩) (by show w.heap.size + 1 ≠ w.heap.size + 1 + 1; omega) (.slice A3 n3 c3)).far (p := ⟨w.heap.size + 1 + 1, 2, none⟩) (by show w.heap.size + 1 ≠ w.heap.size + 1 + 1; omega) (.int .i64 st)
  refine ⟨_, _, _, _, _, _, rfl, L1, L3, Lib.hid ?_, Lib.hid ?_, KC, ?_⟩
  · have q := (HS4.out.farB HV.out.2 (by decide) 1 (.slice A3 n3 c3)).farB v2 (by decide) 2 (.int .i64 st)
    exact (((q.farB v1 (by decide) 0 _).farB (v1.set 0 _) (by decide) 1 _).farB ((v1.set 0 _).set 1 _) (by decide) 2 _).wideB (Nat.le_refl _) (by simp [World.setCell])
  · have q := (HS5.out.far HV.out.2 (by decide) 1 (.slice A3 n3 c3)).far v2 (by decide) 2 (.int .i64 st)
    exact (((q.far v1 (by decide) 0 _).far (v1.set 0 _) (by decide) 1 _).far ((v1.set 0 _).set 1 _) (by decide) 2 _).wide (Nat.le_refl _) (by simp [World.setCell])
  · exact ((((hb4.setCell (by show w.heap.size ≤ w.heap.size + 1 + 1; omega) _).setCell (by show w.heap.size ≤ w.heap.size + 1 + 1; omega) _).setCell (by show w.heap.size ≤ w.heap.size + 1; omega) _).setCell (by show w.heap.size ≤ w.heap.size + 1; omega) _).setCell (by show w.heap.size ≤ w.heap.size + 1; omega) _

set_option maxRecDepth 100000 in
theorem toFlash (A C : Option Addr) (n c m d : Nat) (st : Int) (zs : List Int) (gs : List Bool) (w : World) (hl : zs.length = n) (hm : gs.length = m) (hn : n ≤ 1048576) (hmm : m ≤ 1048576) (h : IntL w A zs) (g : BoolL w C gs) :
    Calls Try.prog 45 #[.agg #[.slice A n c, .slice C m d, .int .i64 st]] w (GivesFlash zs gs st w) :=
  (toFlashC A C n c m d st zs gs w hl hm hn hmm h g).mono fun _ _ h => h.plain

set_option maxRecDepth 100000 in
theorem eqFlashSame (A A' C C' : Option Addr) (n n' m m' c c' d d' : Nat) (st : Int) (zs : List Int) (gs : List Bool) (w : World)
    (hl : zs.length = n) (hl' : zs.length = n') (hm : gs.length = m) (hm' : gs.length = m') (hn : n ≤ maxLen) (gn : m ≤ maxLen)
    (h : IntL w A zs) (h' : IntL w A' zs) (g : BoolL w C gs) (g' : BoolL w C' gs) :
    Calls Try.prog 52 #[.agg #[.slice A n c, .slice C m d, .int .i64 st], .agg #[.slice A' n' c', .slice C' m' d', .int .i64 st]] w fun e w' => e = .returned (.bool true) ∧ Below w.heap.size w w' := by
  have H1 := Lib.hid (fun W hb => eqIntSame A A' n n' c c' zs W hl hl' hn (h.below hb) (h'.below hb))
  have H2 := Lib.hid (fun W hb => eqBoolSame C C' m m' d d' gs W hm hm' gn (g.below hb) (g'.below hb))
  obtain ⟨W0, hW0⟩ : ∃ W0, W0 = ((w.alloc (.cells #[.slice A n c, .slice C m d, .int .i64 st] 43)).alloc (.cells #[.slice A' n' c', .slice C' m' d', .int .i64 st] 43)) := ⟨_, rfl⟩
  have hb0 : Below w.heap.size w W0 := by rw [hW0]; exact ((Below.refl _ _).alloc (Nat.le_refl _) _).alloc (by simp) _
  have X0 : Hid (Box W0 w.heap.size 43 #[.slice A n c, .slice C m d, .int .i64 st]) := Lib.hid (by rw [hW0]; exact (Box.new _ _ _).alloc _)
  have Y0 : Hid (Box W0 (w.heap.size + 1) 43 #[.slice A' n' c', .slice C' m' d', .int .i64 st]) := Lib.hid (by rw [hW0]; simpa using Box.new (w.alloc (.cells #[.slice A n c, .slice C m d, .int .i64 st] 43)) 43 #[.slice A' n' c', .slice C' m' d', .int .i64 st])
  have HW0 := Lib.hid hW0
  have hq : (st != st) = false := by simp
  clear hl hl' hm hm' hn gn h h' g g' hW0
  go_enter Try.func52, Try.ntmps52
  go_wp2_with fail
  rw [← HW0.out]
  refine (H1.out _ hb0).mono ?_
  rintro e w1 ⟨rfl, hb1⟩
  have X1 := Lib.hid (X0.out.step hb1)
  have Y1 := Lib.hid (Y0.out.step hb1)
  have f1 := X1.out.cell 1 rfl
  have f2 := Y1.out.cell 1 rfl
  have hb := bt hb0 hb1
  clear X0 Y0 HW0 hb0 hb1 H1
  go_wp2_with fail
  refine (H2.out _ hb).mono ?_
  rintro e w2 ⟨rfl, hb2⟩
  have k1 := (X1.out.step hb2).cell 2 rfl
  have k2 := (Y1.out.step hb2).cell 2 rfl
  have hb3 := bt hb hb2
  clear X1 Y1 H2 f1 f2 hb hb2
  go_wp2
  go_ret
  exact ⟨rfl, hb3⟩

/-- What the marks of a flash leave. -/
def MarkedFlash (lo hi : Nat) (A C : Option Addr) (k n m : Nat) (w : World) (e : Ending) (w' : World) : Prop :=
  e = .returned (.int .i64 ((k + n + m : Nat) : Int)) ∧ Hid (OwnI w' lo hi A (marksI k n)) ∧ Hid (OwnB w' lo hi C (marksB (k + n) m)) ∧ Btw lo hi w w'

set_option maxRecDepth 100000 in
set_option maxHeartbeats 2000000 in
theorem markFlash (A C : Option Addr) (n c m d lo hi : Nat) (st : Int) (zs : List Int) (gs : List Bool) (w : World) (hl : zs.length = n) (hm : gs.length = m) (hn : n ≤ 4294967296) (hmm : m ≤ 4294967296) (h : OwnI w lo hi A zs) (g : OwnB w lo hi C gs) (hhi : hi ≤ w.heap.size) :
    Calls Try.prog 53 #[.agg #[.slice A n c, .slice C m d, .int .i64 st], .int .i64 1] w (MarkedFlash lo hi A C 1 n m w) := by
  have hb0 := alloc_below w (.cells #[.slice A n c, .slice C m d, .int .i64 st] 43)
  obtain ⟨l, r, q1, q2, h', q3⟩ := (h.below hb0).narrowB
  have HC := Lib.hid (markIntSs A n c 1 l r zs _ hl (by omega) (by omega) (by omega) h')
  have HD := Lib.hid (fun l r W (hw : OwnB W l r C gs) => markBoolS C m d (1 + n) l r gs W hm (by omega) (by omega) (by omega) hw)
  have X := Lib.hid (Box.new w 43 #[.slice A n c, .slice C m d, .int .i64 st])
  have G := Lib.hid (g.below hb0)
  have HT := Lib.hid (Btw.of_below hb0 lo hi)
  have HQ := Lib.hid q3
  clear hl hm h g hb0 h' q3
  go_enter Try.func53, Try.ntmps53
  go_wp2_with fail
  refine HC.out.mono ?_
  rintro e w1 ⟨rfl, HS1, hb1⟩
  have X1 := X.out.btw hb1 (by omega)
  have f1 : w1.cell? ⟨w.heap.size, 1, none⟩ = some (.slice C m d) := X1.cell 1 rfl
  have HG1 := Lib.hid (G.out.apart hb1 HQ.out)
  obtain ⟨l2, r2, p1, p2, g', p3⟩ := HG1.out.narrow
  have HB1 := Lib.hid (HT.out.trans (hb1.wide q1 q2))
  have HD2 := Lib.hid (HD.out l2 r2 w1 g')
  have HS2 := Lib.hid (HS1.out.wideB q1 q2)
  have HP := Lib.hid p3
  rw [show ((1 + n : Nat) : Int) = 1 + (n : Int) from by omega] at HD2
  clear X1 HG1 g' p3 hb1 HS1 HC HD X G HT HQ
  go_wp2_with fail
  refine HD2.out.mono ?_
  rintro e w2 ⟨rfl, HW2, hb2⟩
  have HF := Lib.hid (HB1.out.trans (hb2.wide p1 p2))
  have HS3 := Lib.hid (HS2.out.apartB hb2 HP.out)
  have HW3 := Lib.hid (HW2.out.wide p1 p2)
  clear hb2 HS2 HW2 HB1 HD2 HP f1
  go_wp2
  go_ret
  exact ⟨rfl, HS3, HW3, HF.out⟩

set_option maxRecDepth 100000 in
set_option maxHeartbeats 2000000 in
theorem heldFlash (A C : Option Addr) (n c m d : Nat) (st : Int) (w : World) (hn : n ≤ 4294967296) (hmm : m ≤ 4294967296) (h : IntL w A (marksI 1 n)) (g : BoolL w C (marksB (1 + n) m)) :
    Calls Try.prog 54 #[.agg #[.slice A n c, .slice C m d, .int .i64 st], .int .i64 1] w fun e w' => e = .returned (.int .i64 ((1 + n + m : Nat) : Int)) ∧ Below w.heap.size w w' := by
  have hb0 := alloc_below w (.cells #[.slice A n c, .slice C m d, .int .i64 st] 43)
  have HC := Lib.hid (heldIntS A n c 1 _ (by omega) (by omega) (h.below hb0))
  have HD := Lib.hid (fun W (hb : Below w.heap.size w W) => heldBoolS C m d (1 + n) W (by omega) (by omega) (g.below hb))
  clear h g
  go_enter Try.func54, Try.ntmps54
  go_wp2_with fail
  refine HC.out.mono ?_
  rintro e w1 ⟨rfl, rfl⟩
  have hp : ¬ (1 : Int) + (n : Int) < 0 := by omega
  have HD2 := Lib.hid (HD.out _ hb0)
  rw [show ((1 + n : Nat) : Int) = 1 + (n : Int) from by omega] at HD2
  clear HC HD
  go_wp2_with fail
  refine HD2.out.mono ?_
  rintro e w2 ⟨rfl, rfl⟩
  have hp2 : ¬ (1 : Int) + (n : Int) + (m : Int) < 0 := by omega
  go_wp2
  go_ret
  exact ⟨rfl, hb0⟩
end Go.Proofs.Ytieljgoodmoacaa
