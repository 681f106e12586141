/- Texts of this claim, one behind the other: FlashSpec, Chip, ChipOps, ChipOf. -/
import Derived.Deep.MidRow
import Derived.Laws.CopyOwn
import Derived.Deep.RegionHeld3
import Derived.Test.YtcchhbkbnbphhaaGreatDoorM1
/- The model's own copy of a flash, and what it does to one: l03Own, l03Program, l03Erase, l03Guard. -/
namespace Go.Proofs.YtcchhbkbnbphhaaGreatDoor
open Go.RowKit

theorem ext_getD {α : Type} (d : α) {l m : List α} (hl : l.length = m.length) (h : ∀ i, i < l.length → l.getD i d = m.getD i d) : l = m := by
  apply List.ext_getElem hl
  intro i h1 h2
  have := h i h1
  rw [List.getD_eq_getElem?_getD, List.getD_eq_getElem?_getD, List.getElem?_eq_getElem h1, List.getElem?_eq_getElem h2] at this
  exact this
def fillR (zs : List Int) (a b : Nat) : List Int := (List.range zs.length).map fun i => if a ≤ i ∧ i < b then 255 else zs.getD i 0
theorem fillR_len (zs : List Int) (a b : Nat) : (fillR zs a b).length = zs.length := by simp [fillR]
theorem fillR_at (zs : List Int) (a b i : Nat) (h : i < zs.length) : (fillR zs a b).getD i 0 = if a ≤ i ∧ i < b then 255 else zs.getD i 0 := by
  unfold fillR
  rw [List.getD_eq_getElem?_getD, List.getElem?_map, List.getElem?_range h]
  rfl
theorem fillR_none (zs : List Int) (a : Nat) : fillR zs a a = zs := by
  apply ext_getD 0 (fillR_len _ _ _)
  intro i hi
  rw [fillR_len] at hi
  rw [fillR_at _ _ _ _ hi, if_neg (by omega)]
theorem fillR_next (zs : List Int) (a b : Nat) (hab : a ≤ b) (hb : b < zs.length) : (fillR zs a b).set b 255 = fillR zs a (b + 1) := by
  apply ext_getD 0 (by simp [fillR_len])
  intro i hi
  have hi' : i < zs.length := by simpa [fillR_len] using hi
  rw [fillR_at _ _ _ _ hi']
  by_cases e : i = b
  · subst e
    rw [List.getD_eq_getElem?_getD, List.getElem?_set_self (by rw [fillR_len]; exact hb), if_pos ⟨hab, by omega⟩]
    rfl
  · rw [List.getD_eq_getElem?_getD, List.getElem?_set_ne (fun q => e q.symm), ← List.getD_eq_getElem?_getD, fillR_at _ _ _ _ hi']
    by_cases q : a ≤ i ∧ i < b
    · rw [if_pos q, if_pos (by omega)]
    · rw [if_neg q, if_neg (by omega)]
def progL (zs : List Int) (gs : List Bool) (k v : Nat) : List Int := if gs.getD (k / 16) false then zs else zs.set k (((zs.getD k 0).toNat &&& v : Nat) : Int)
def eraseL (zs : List Int) (gs : List Bool) (b : Nat) : List Int := if gs.getD b false then zs else fillR zs (b * 16) (b * 16 + 16)
theorem progL_len (zs : List Int) (gs : List Bool) (k v : Nat) : (progL zs gs k v).length = zs.length := by unfold progL; split <;> simp
theorem eraseL_len (zs : List Int) (gs : List Bool) (b : Nat) : (eraseL zs gs b).length = zs.length := by unfold eraseL; split <;> simp [fillR_len]

set_option maxRecDepth 100000 in
set_option maxHeartbeats 4000000 in
theorem l03OwnC (A C : Option Addr) (n c m d : Nat) (st : Int) (zs : List Int) (gs : List Bool) (w : World) (hl : zs.length = n) (hm : gs.length = m) (hn : n = 256) (hmm : m = 16) (h : IntL w A zs) (g : BoolL w C gs) :
    Calls Tryz.prog 71 #[.agg #[.slice A n c, .slice C m d, .int .i64 st]] w (GivesFlashC zs gs st w) := by
  obtain ⟨W0, hW0⟩ : ∃ W0, W0 = ((w.alloc (.cells #[.slice A n c, .slice C m d, .int .i64 st] 29)).alloc (.cells #[.slice none 0 0, .slice none 0 0, .int .i64 0] 29)) := ⟨_, rfl⟩
  have hb0 : Below w.heap.size w W0 := by rw [hW0]; exact bt (alloc_below _ _) (alloc_below _ _)
  have X0 : Box W0 w.heap.size 29 #[.slice A n c, .slice C m d, .int .i64 st] := by rw [hW0]; exact (Box.new _ _ _).alloc _
  have Y0 : Box W0 (w.heap.size + 1) 29 #[.slice none 0 0, .slice none 0 0, .int .i64 0] := by rw [hW0]; simpa using Box.new (w.alloc (.cells #[.slice A n c, .slice C m d, .int .i64 st] 29)) 29 #[.slice none 0 0, .slice none 0 0, .int .i64 0]
  have HL := Lib.hid (And.intro hl hm)
  have HSi := Lib.hid (fun W (hb : Below w.heap.size w W) => (h.below hb).src (by omega))
  have HSb := Lib.hid (fun W (hb : Below w.heap.size w W) => (g.below hb).src (by omega))
  have HCi : Hid ((cellsI zs).length = n * 1) := Lib.hid (by rw [cellsI_len]; omega)
  have HCb : Hid ((cellsB gs).length = m * 1) := Lib.hid (by rw [cellsB_len]; omega)
  have hn1 : 0 < n := by omega
  have hm1 : 0 < m := by omega
  have hn2 : n ≤ 256 := by omega
  have hm2 : m ≤ 16 := by omega
  have HW0 := Lib.hid hW0
  have f0 := X0.cell 0 rfl
  have HX := Lib.hid (And.intro X0 Y0)
  have hba := bt hb0 (alloc_below W0 (.cells #[] 3))
  clear hl hm h g hW0 X0 Y0 hn hmm
  go_enter Tryz.func71, Tryz.ntmps71
  go_wp2_with (first | (rw [← HW0.out]; with_reducible refine wpList_app_fresh rfl (.tmp 3) (.tmp 5) 23 rfl 3 (.int .i64 0) 1 8 Tryz.underlying23 infoIx rfl (by decide) _ rfl A n c hn1 (cellsI zs) rfl HCi.out (HSi.out _ hba) (by unfold maxLen; omega) (by omega) ?_))
  intro A1 c1 w1 hb1 O1
  have hk1 := (alloc_below W0 (.cells #[] 3)).trans (hb1.mono (by omega))
  have X1 := HX.out.1.step hk1
  have Y1 := HX.out.2.step hk1
  have KC : Hid (n ≤ c1) := Lib.hid (by obtain ⟨A', cap, hv, hle⟩ := rowv_form O1.out; injection hv with _ _ e3; omega)
  have S1 := Lib.hid (ownI_fresh (lo := w.heap.size) O1.out hn1 (by have := hb0.size; omega))
  have g0 := X1.cell 0 rfl
  have g0z := X1.frozen 0
  have g1 : ((w1.setCell ⟨w.heap.size, 0, none⟩ (.slice A1 n c1)).alloc (.cells #[] 4)).cell? ⟨w.heap.size, 1, none⟩ = some (.slice C m d) := ((X1.set 0 _).alloc _).cell 1 rfl
  have hb2 : Below w.heap.size w (w1.setCell ⟨w.heap.size, 0, none⟩ (.slice A1 n c1)) := (bt hb0 hk1).setCell (Nat.le_refl _) _
  have S2 := Lib.hid (S1.out.farB X1 (by decide) 0 (.slice A1 n c1))
  have HE : Hid (w1.heap.size = (w1.setCell ⟨w.heap.size, 0, none⟩ (.slice A1 n c1)).heap.size) := Lib.hid (by simp [World.setCell])
  rw [HE.out] at S2
  have HX2 := Lib.hid (And.intro (X1.set 0 (.slice A1 n c1)) (Y1.far (p := ⟨w.heap.size, 0, none⟩) (by show w.heap.size + 1 ≠ w.heap.size; omega) (.slice A1 n c1)))
  clear f0 HX hb0 hb1 O1 hk1 X1 Y1 S1 HE hba HSi HCi
  obtain ⟨w2, hw2⟩ : ∃ w2, w2 = w1.setCell ⟨w.heap.size, 0, none⟩ (.slice A1 n c1) := ⟨_, rfl⟩
  rw [← hw2] at hb2 S2 HX2
  have HW2 := Lib.hid hw2
  clear hw2
  have hbb := bt hb2 (alloc_below w2 (.cells #[] 4))
  go_wp2_with (first | (rw [← HW2.out]; with_reducible refine wpList_app_fresh rfl (.tmp 8) (.tmp 10) 27 rfl 4 (.bool false) 1 1 Tryz.underlying27 infoBx rfl (by decide) _ rfl C m d hm1 (cellsB gs) rfl HCb.out (HSb.out _ hbb) (by unfold maxLen; omega) (by omega) ?_))
  intro A3 c3 w3 hb3 O3
  have hk3 := (alloc_below w2 (.cells #[] 4)).trans (hb3.mono (by omega))
  have V1 := HX2.out.1.step hk3
  have V2 := HX2.out.2.step hk3
  have S3 := Lib.hid (ownB_fresh (lo := w.heap.size) O3.out hm1 (by have := hb2.size; omega))
  have S4 := Lib.hid ((S2.out.below hk3).wideB (Nat.le_refl _) hk3.size)
  have k0 : w3.cell? ⟨w.heap.size, 0, none⟩ = some (.slice A1 n c1) := V1.cell 0 rfl
  have k1 : w3.cell? ⟨w.heap.size, 1, none⟩ = some (.slice C m d) := V1.cell 1 rfl
  have k2 : w3.cell? ⟨w.heap.size, 2, none⟩ = some (.int .i64 st) := V1.cell 2 rfl
  have k1z := V1.frozen 1
  have e0 : w3.cell? ⟨w.heap.size + 1, 0, none⟩ = some (.slice none 0 0) := V2.cell 0 rfl
  have e1 : w3.cell? ⟨w.heap.size + 1, 1, none⟩ = some (.slice none 0 0) := V2.cell 1 rfl
  have e2 : w3.cell? ⟨w.heap.size + 1, 2, none⟩ = some (.int .i64 0) := V2.cell 2 rfl
  have e0z := V2.frozen 0
  have e1z := V2.frozen 1
  have e2z := V2.frozen 2
  have hb4 := bt hb2 hk3
  have HV := Lib.hid (And.intro V1 V2)
  clear g0 g0z g1 HX2 hb2 hb3 hk3 O3 V1 V2 S2 hbb HSb HCb HW2
  go_wp2
  refine bodyPost_ret (v := .agg #[.slice A1 n c1, .slice A3 m c3, .int .i64 st]) (by simp [results, Tryz.results71, go_sem, e0, e1, e2]) rfl ?_
  have v1 := HV.out.1
  have v2 := HV.out.2.far (p := ⟨w.heap.size, 1, none⟩) (by show w.heap.size + 1 ≠ w.heap.size; omega) (.slice A3 m c3)
  refine ⟨_, _, _, _, _, _, rfl, Lib.hid HL.out.1, Lib.hid HL.out.2, Lib.hid ?_, Lib.hid ?_, KC, ?_⟩
  · have q := S4.out.farB v1 (by decide) 1 (.slice A3 m c3)
    exact (((q.farB v2 (by decide) 0 _).farB (v2.set 0 _) (by decide) 1 _).farB ((v2.set 0 _).set 1 _) (by decide) 2 _).wideB (Nat.le_refl _) (by simp [World.setCell])
  · have q := S3.out.far v1 (by decide) 1 (.slice A3 m c3)
    exact (((q.far v2 (by decide) 0 _).far (v2.set 0 _) (by decide) 1 _).far ((v2.set 0 _).set 1 _) (by decide) 2 _).wide (Nat.le_refl _) (by simp [World.setCell])
  · exact (((hb4.setCell (Nat.le_refl _) _).setCell (by show w.heap.size ≤ w.heap.size + 1; omega) _).setCell (by show w.heap.size ≤ w.heap.size + 1; omega) _).setCell (by show w.heap.size ≤ w.heap.size + 1; omega) _

set_option maxRecDepth 100000 in
theorem l03Own (A C : Option Addr) (n c m d : Nat) (st : Int) (zs : List Int) (gs : List Bool) (w : World) (hl : zs.length = n) (hm : gs.length = m) (hn : n = 256) (hmm : m = 16) (h : IntL w A zs) (g : BoolL w C gs) :
    Calls Tryz.prog 71 #[.agg #[.slice A n c, .slice C m d, .int .i64 st]] w (GivesFlash zs gs st w) :=
  (l03OwnC A C n c m d st zs gs w hl hm hn hmm h g).mono fun _ _ h => h.plain

theorem at256 {zs : List Int} (h : ∀ z ∈ zs, 0 ≤ z ∧ z ≤ 255) (k : Nat) (hk : k < zs.length) : ∃ z : Nat, zs.getD k 0 = z ∧ z < 256 := by
  have := h (zs.getD k 0) (by rw [List.getD_eq_getElem?_getD, List.getElem?_eq_getElem hk]; exact List.getElem_mem _)
  exact ⟨(zs.getD k 0).toNat, by omega, by omega⟩

theorem Box.flash3 {w : World} {b : Nat} {cs : Array Value} (X : Box w b 29 cs) (hs : cs.size = 3) (u0 u1 u2 : Value) :
    Box (((w.setCell ⟨b, 0, none⟩ u0).setCell ⟨b, 1, none⟩ u1).setCell ⟨b, 2, none⟩ u2) b 29 #[u0, u1, u2] := by
  have := ((X.set 0 u0).set 1 u1).set 2 u2
  rw [show ((cs.setIfInBounds 0 u0).setIfInBounds 1 u1).setIfInBounds 2 u2 = #[u0, u1, u2] from by
    match cs, hs with
    | ⟨[a, b, c]⟩, _ => rfl] at this
  exact this
theorem Box.far3 {w : World} {b b' : Nat} {t : TypeId} {cs : Array Value} (X : Box w b t cs) (hb : b ≠ b') (u0 u1 u2 : Value) :
    Box (((w.setCell ⟨b', 0, none⟩ u0).setCell ⟨b', 1, none⟩ u1).setCell ⟨b', 2, none⟩ u2) b t cs := ((X.far (p := ⟨b', 0, none⟩) hb u0).far (p := ⟨b', 1, none⟩) hb u1).far (p := ⟨b', 2, none⟩) hb u2
theorem OwnI.far3 {w : World} {lo hi : Nat} {A : Option Addr} {zs : List Int} (h : OwnI w lo hi A zs) {b : Nat} {cs : Array Value} (X : Box w b 29 cs) (u0 u1 u2 : Value) : OwnI (((w.setCell ⟨b, 0, none⟩ u0).setCell ⟨b, 1, none⟩ u1).setCell ⟨b, 2, none⟩ u2) lo hi A zs :=
  ((h.farB X (by decide) 0 u0).farB (X.set 0 u0) (by decide) 1 u1).farB ((X.set 0 u0).set 1 u1) (by decide) 2 u2
theorem OwnB.far3 {w : World} {lo hi : Nat} {A : Option Addr} {gs : List Bool} (h : OwnB w lo hi A gs) {b : Nat} {cs : Array Value} (X : Box w b 29 cs) (u0 u1 u2 : Value) : OwnB (((w.setCell ⟨b, 0, none⟩ u0).setCell ⟨b, 1, none⟩ u1).setCell ⟨b, 2, none⟩ u2) lo hi A gs :=
  ((h.far X (by decide) 0 u0).far (X.set 0 u0) (by decide) 1 u1).far ((X.set 0 u0).set 1 u1) (by decide) 2 u2
theorem below3 {w0 w : World} {b : Nat} (h : Below w0.heap.size w0 w) (hb : w0.heap.size ≤ b) (u0 u1 u2 : Value) : Below w0.heap.size w0 (((w.setCell ⟨b, 0, none⟩ u0).setCell ⟨b, 1, none⟩ u1).setCell ⟨b, 2, none⟩ u2) :=
  ((h.setCell (p := ⟨b, 0, none⟩) hb u0).setCell (p := ⟨b, 1, none⟩) hb u1).setCell (p := ⟨b, 2, none⟩) hb u2
theorem size3 (w : World) (b : Nat) (u0 u1 u2 : Value) : (((w.setCell ⟨b, 0, none⟩ u0).setCell ⟨b, 1, none⟩ u1).setCell ⟨b, 2, none⟩ u2).heap.size = w.heap.size := by simp [World.setCell]

set_option maxRecDepth 100000 in
set_option maxHeartbeats 4000000 in
theorem l03Program (A C : Option Addr) (n c m d k v : Nat) (st : Int) (zs : List Int) (gs : List Bool) (w : World) (hl : zs.length = n) (hm : gs.length = m) (hn : n = 256) (hmm : m = 16) (hk : k < 256) (hv : v < 256) (hz : ∀ z ∈ zs, 0 ≤ z ∧ z ≤ 255) (h : IntL w A zs) (g : BoolL w C gs) :
    Calls Tryz.prog 124 #[.agg #[.slice A n c, .slice C m d, .int .i64 st], .int .i64 k, .int .i64 v] w (GivesFlash (progL zs gs k v) gs st w) := by
  obtain ⟨W0, hW0⟩ : ∃ W0, W0 = ((w.alloc (.cells #[.slice A n c, .slice C m d, .int .i64 st] 29)).alloc (.cells #[.slice none 0 0, .slice none 0 0, .int .i64 0] 29)) := ⟨_, rfl⟩
  have hb0 : Below w.heap.size w W0 := by rw [hW0]; exact bt (alloc_below _ _) (alloc_below _ _)
  have X0 : Box W0 w.heap.size 29 #[.slice A n c, .slice C m d, .int .i64 st] := by rw [hW0]; exact (Box.new _ _ _).alloc _
  have Y0 : Box W0 (w.heap.size + 1) 29 #[.slice none 0 0, .slice none 0 0, .int .i64 0] := by rw [hW0]; simpa using Box.new (w.alloc (.cells #[.slice A n c, .slice C m d, .int .i64 st] 29)) 29 #[.slice none 0 0, .slice none 0 0, .int .i64 0]
  have HO := Lib.hid (l03Own A C n c m d st zs gs W0 hl hm hn hmm (h.below hb0) (g.below hb0))
  have HLen : Hid ((progL zs gs k v).length = n ∧ zs.length = 256 ∧ gs.length = 16) := Lib.hid ⟨by rw [progL_len]; exact hl, by omega, by omega⟩
  obtain ⟨z, hzk, hz2⟩ := at256 hz k (by omega)
  obtain ⟨x, hx⟩ : ∃ x, bits .and .i64 (z : Int) (v : Int) = x := ⟨_, rfl⟩
  have HP : Hid (∀ q, gs.getD (k / 16) false = q → progL zs gs k v = if q then zs else zs.set k x) := Lib.hid (by
    intro q hq
    unfold progL
    rw [hq, hzk, ← hx, and_i64 z v hz2 hv]
    rfl)
  have HZ := Lib.hid hzk
  have HX := Lib.hid (And.intro X0 Y0)
  have HW0 := Lib.hid hW0
  generalize progL zs gs k v = r at HP HLen
  have HN := Lib.hid (And.intro hn hmm)
  clear hl hm h g hW0 X0 Y0 hz hzk hn hmm
  have hkd : ((k / 16 : Nat) : Int) < 16 := by omega
  have hki : (k : Int) < 256 := by omega
  go_enter Tryz.func124, Tryz.ntmps124
  go_wp2_with fail
  rw [← HW0.out]
  refine HO.out.mono ?_
  rintro e w1 ⟨A1, n1, c1, C1, m1, d1, rfl, L1, M1, S1, R1, hb1⟩
  obtain rfl : n1 = 256 := by have := L1.out; have := HLen.out; omega
  obtain rfl : m1 = 16 := by have := M1.out; have := HLen.out; omega
  have X1 := HX.out.1.step hb1
  have Y1 := HX.out.2.step hb1
  have a0 := X1.cell 0 rfl
  have a1 := X1.cell 1 rfl
  have a2 := X1.cell 2 rfl
  have a0z := X1.frozen 0
  have a1z := X1.frozen 1
  have a2z := X1.frozen 2
  obtain ⟨w2, hw2⟩ : ∃ w2, w2 = ((w1.setCell ⟨w.heap.size, 0, none⟩ (.slice A1 256 c1)).setCell ⟨w.heap.size, 1, none⟩ (.slice C1 16 d1)).setCell ⟨w.heap.size, 2, none⟩ (.int .i64 st) := ⟨_, rfl⟩
  have X2 : Box w2 w.heap.size 29 #[.slice A1 256 c1, .slice C1 16 d1, .int .i64 st] := by rw [hw2]; exact X1.flash3 rfl _ _ _
  have Y2 : Box w2 (w.heap.size + 1) 29 #[.slice none 0 0, .slice none 0 0, .int .i64 0] := by rw [hw2]; exact Y1.far3 (by omega) _ _ _
  have S2 : Hid (OwnI w2 w.heap.size w2.heap.size A1 zs) := Lib.hid (by rw [hw2]; exact (S1.out.far3 X1 _ _ _).wideB hb0.size (by rw [size3]; exact Nat.le_refl _))
  have R2 : Hid (OwnB w2 w.heap.size w2.heap.size C1 gs) := Lib.hid (by rw [hw2]; exact (R1.out.far3 X1 _ _ _).wide hb0.size (by rw [size3]; exact Nat.le_refl _))
  have hb2 : Below w.heap.size w w2 := by rw [hw2]; exact below3 (bt hb0 hb1) (Nat.le_refl _) _ _ _
  obtain ⟨bg, mg, fg, rfl, hcg, -, -, -, -, -⟩ := R2.out.put (k / 16) (by have := HLen.out; omega)
  obtain ⟨ba, ma, fa, rfl, hca, hfa, hlo, hhi, hra, hput⟩ := S2.out.put k (by have := HLen.out; omega)
  rw [HZ.out] at hca
  have HP2 := Lib.hid (HP.out _ rfl)
  generalize gs.getD (k / 16) false = q at hcg HP2
  have HPut := Lib.hid (And.intro hlo hput)
  have x0 := X2.cell 0 rfl
  have x1 := X2.cell 1 rfl
  have x2 := X2.cell 2 rfl
  have y0 := Y2.cell 0 rfl
  have y1 := Y2.cell 1 rfl
  have y2 := Y2.cell 2 rfl
  have y0z := Y2.frozen 0
  have y1z := Y2.frozen 1
  have y2z := Y2.frozen 2
  have X3 := X2.other hra (by decide) k (.int .i64 x)
  have Y3 := Y2.other hra (by decide) k (.int .i64 x)
  have R3 := Lib.hid (R2.out.other hra (by decide) k (.int .i64 x))
  have u0 := X3.cell 0 rfl
  have u1 := X3.cell 1 rfl
  have u2 := X3.cell 2 rfl
  have t0 := Y3.cell 0 rfl
  have t1 := Y3.cell 1 rfl
  have t2 := Y3.cell 2 rfl
  have t0z := Y3.frozen 0
  have t1z := Y3.frozen 1
  have t2z := Y3.frozen 2
  have HYs := Lib.hid (And.intro Y2 Y3)
  have HB2 := Lib.hid (And.intro hb2 hw2)
  rw [hw2] at hcg hca hfa x0 x1 x2 y0 y1 y2 y0z y1z y2z u0 u1 u2 t0 t1 t2 t0z t1z t2z
  clear X1 Y1 S1 R1 hb0 hb1 hw2 X2 Y2 hb2 hlo hhi hra hput X3 Y3 HP HO HX HW0 fg fa
  cases q
  · have HE : Hid (r = zs.set k x) := Lib.hid (by rw [HP2.out]; rfl)
    go_wp2
    refine bodyPost_ret (v := .agg #[.slice (some ⟨ba, 0, none⟩) 256 c1, .slice (some ⟨bg, 0, none⟩) 16 d1, .int .i64 st]) (by simp [results, Tryz.results124, go_sem, t0, t1, t2]) rfl ?_
    rw [← HB2.out.2, HE.out]
    refine ⟨_, _, _, _, _, _, rfl, Lib.hid (by rw [← HE.out, HLen.out.1]; exact HN.out.1), Lib.hid HLen.out.2.2, Lib.hid ?_, Lib.hid ?_, ?_⟩
    · exact ((HPut.out.2 x).far3 HYs.out.2 _ _ _).wideB (Nat.le_refl _) (by rw [size3]; simp [World.setCell])
    · exact (R3.out.far3 HYs.out.2 _ _ _).wide (Nat.le_refl _) (by rw [size3]; simp [World.setCell])
    · exact below3 (HB2.out.1.setCell (p := ⟨ba, k, none⟩) HPut.out.1 _) (by omega) _ _ _
  · have HE : Hid (r = zs) := Lib.hid (by rw [HP2.out]; rfl)
    go_wp2
    refine bodyPost_ret (v := .agg #[.slice (some ⟨ba, 0, none⟩) 256 c1, .slice (some ⟨bg, 0, none⟩) 16 d1, .int .i64 st]) (by simp [results, Tryz.results124, go_sem, y0, y1, y2]) rfl ?_
    rw [← HB2.out.2, HE.out]
    refine ⟨_, _, _, _, _, _, rfl, Lib.hid HLen.out.2.1, Lib.hid HLen.out.2.2, Lib.hid ?_, Lib.hid ?_, ?_⟩
    · exact (S2.out.far3 HYs.out.1 _ _ _).wideB (Nat.le_refl _) (by rw [size3]; exact Nat.le_refl _)
    · exact (R2.out.far3 HYs.out.1 _ _ _).wide (Nat.le_refl _) (by rw [size3]; exact Nat.le_refl _)
    · exact below3 HB2.out.1 (by omega) _ _ _
end Go.Proofs.YtcchhbkbnbphhaaGreatDoor

/- A chip's value: 256 bytes, 16 booleans, a state, one cell each; contracts of chip.protect, chip.program, chip.erase. -/
namespace Go.Proofs.YtcchhbkbnbphhaaGreatDoor
open Go.RowKit

def chipC (zs : List Int) (gs : List Bool) (st : Int) : List Value := zs.map (fun z => Value.int .u8 z) ++ (gs.map Value.bool ++ [Value.int .i64 st])
theorem chipC_len (zs : List Int) (gs : List Bool) (st : Int) : (chipC zs gs st).length = zs.length + (gs.length + 1) := by simp [chipC]
theorem chipC_cell {zs : List Int} {gs : List Bool} {st : Int} (k : Nat) (hk : k < zs.length) : (chipC zs gs st)[k]? = some (.int .u8 (zs.getD k 0)) := by
  unfold chipC
  rw [List.getElem?_append_left (by simpa using hk), List.getElem?_map, List.getD_eq_getElem?_getD, List.getElem?_eq_getElem hk]
  rfl
theorem chipC_guard {zs : List Int} {gs : List Bool} {st : Int} (hz : zs.length = 256) (k : Nat) (hk : k < gs.length) : (chipC zs gs st)[256 + k]? = some (.bool (gs.getD k false)) := by
  unfold chipC
  rw [List.getElem?_append_right (by simp [hz]), List.length_map, hz, Nat.add_sub_cancel_left, List.getElem?_append_left (by simpa using hk), List.getElem?_map, List.getD_eq_getElem?_getD, List.getElem?_eq_getElem hk]
  rfl
theorem chipC_state {zs : List Int} {gs : List Bool} {st : Int} (hz : zs.length = 256) (hg : gs.length = 16) : (chipC zs gs st)[272]? = some (.int .i64 st) := by
  unfold chipC
  rw [List.getElem?_append_right (by simp [hz]), List.length_map, hz, List.getElem?_append_right (by simp [hg]), List.length_map, hg]
  rfl
theorem chipC_setCell {zs : List Int} {gs : List Bool} {st : Int} (k : Nat) (x : Int) (hk : k < zs.length) : (chipC zs gs st).set k (.int .u8 x) = chipC (zs.set k x) gs st := by
  unfold chipC
  rw [List.set_append_left _ _ (by simpa using hk), List.map_set]
theorem chipC_setGuard {zs : List Int} {gs : List Bool} {st : Int} (hz : zs.length = 256) (k : Nat) (x : Bool) (hk : k < gs.length) : (chipC zs gs st).set (256 + k) (.bool x) = chipC zs (gs.set k x) st := by
  unfold chipC
  rw [List.set_append_right _ _ (by simp [hz]), List.length_map, hz, Nat.add_sub_cancel_left, List.set_append_left _ _ (by simpa using hk), List.map_set]
theorem chipC_setState {zs : List Int} {gs : List Bool} {st : Int} (hz : zs.length = 256) (hg : gs.length = 16) (x : Int) : (chipC zs gs st).set 272 (.int .i64 x) = chipC zs gs x := by
  unfold chipC
  rw [List.set_append_right _ _ (by simp [hz]), List.length_map, hz, List.set_append_right _ _ (by simp [hg]), List.length_map, hg]
  rfl
theorem chipC_one (zs : List Int) (gs : List Bool) (st : Int) : ∀ v ∈ chipC zs gs st, v.oneCell' = true := by
  intro v hv
  unfold chipC at hv
  simp only [List.mem_append, List.mem_map, List.mem_singleton] at hv
  rcases hv with ⟨z, _, rfl⟩ | ⟨z, _, rfl⟩ | rfl <;> rfl

def BC (w : World) (b : Nat) (zs : List Int) (gs : List Bool) (st : Int) : Prop := Box w b 94 (chipC zs gs st).toArray
section
variable {w w' : World} {b : Nat} {zs : List Int} {gs : List Bool} {st : Int}
theorem BC.range (h : BC w b zs gs st) : w.rangeAt b 0 (chipC zs gs st) := fun j v hv => by
  rw [Nat.zero_add]; exact Box.cell h j (by simpa using hv)
theorem BC.there (h : BC w b zs gs st) : w.there b 0 (chipC zs gs st).length := fun j hj => by
  rw [Nat.zero_add]
  exact ⟨by rw [Box.cell h j (by rw [List.getElem?_toArray, List.getElem?_eq_getElem hj])]; rfl, Box.frozen h j⟩
theorem BC.cell (h : BC w b zs gs st) (k : Nat) (hk : k < zs.length) : w.cell? ⟨b, k, none⟩ = some (.int .u8 (zs.getD k 0)) := Box.cell h k (by simpa using chipC_cell k hk)
theorem BC.guard (h : BC w b zs gs st) (hz : zs.length = 256) (k : Nat) (hk : k < gs.length) : w.cell? ⟨b, 256 + k, none⟩ = some (.bool (gs.getD k false)) := Box.cell h (256 + k) (by simpa using chipC_guard hz k hk)
theorem BC.state (h : BC w b zs gs st) (hz : zs.length = 256) (hg : gs.length = 16) : w.cell? ⟨b, 272, none⟩ = some (.int .i64 st) := Box.cell h 272 (by simpa using chipC_state hz hg)
theorem BC.frozen (h : BC w b zs gs st) (k : Nat) : w.frozen? ⟨b, k, none⟩ = false := Box.frozen h k
theorem BC.step (h : BC w b zs gs st) (hb : Below w.heap.size w w') : BC w' b zs gs st := Box.step h hb
theorem BC.setC (h : BC w b zs gs st) (k : Nat) (x : Int) (hk : k < zs.length) : BC (w.setCell ⟨b, k, none⟩ (.int .u8 x)) b (zs.set k x) gs st := by
  have := Box.set h k (.int .u8 x)
  rw [List.setIfInBounds_toArray, chipC_setCell k x hk] at this
  exact this
theorem BC.setS (h : BC w b zs gs st) (hz : zs.length = 256) (hg : gs.length = 16) (x : Int) : BC (w.setCell ⟨b, 272, none⟩ (.int .i64 x)) b zs gs x := by
  have := Box.set h 272 (.int .i64 x)
  rw [List.setIfInBounds_toArray, chipC_setState hz hg x] at this
  exact this
theorem BC.far (h : BC w b zs gs st) {p : Addr} (hp : b ≠ p.block) (u : Value) : BC (w.setCell p u) b zs gs st := Box.far h hp u
theorem BC.alloc (h : BC w b zs gs st) (o : Obj) : BC (w.alloc o) b zs gs st := Box.alloc h o
theorem BC.new (w : World) (zs : List Int) (gs : List Bool) (st : Int) : BC (w.alloc (.cells (chipC zs gs st).toArray 94)) w.heap.size zs gs st := Box.new _ _ _
end
theorem setCells_far {w : World} {b b' : Nat} {t : TypeId} {cs : Array Value} (h : Box w b t cs) (hb : b ≠ b') : ∀ (o : Nat) (vs : List Value), Box (w.setCells b' o vs) b t cs := by
  intro o vs
  induction vs generalizing w o with
  | nil => exact h
  | cons v vs ih => exact ih (h.far (p := ⟨b', o, none⟩) hb v) (o + 1)
theorem setCells_list {w : World} {b : Nat} {t : TypeId} : ∀ (vs pre : List Value) (l : List Value), Box w b t (pre ++ l).toArray → l.length = vs.length → Box (w.setCells b pre.length vs) b t (pre ++ vs).toArray := by
  intro vs
  induction vs generalizing w with
  | nil => intro pre l h hl; rw [List.length_eq_zero_iff.1 hl] at h; exact h
  | cons v vs ih =>
    intro pre l h hl
    match l, hl with
    | x :: l, hl =>
      have h2 := h.set pre.length v
      rw [List.setIfInBounds_toArray, show (pre ++ x :: l).set pre.length v = (pre ++ [v]) ++ l from by rw [List.set_append_right _ _ (Nat.le_refl _), Nat.sub_self]; simp] at h2
      have := ih (w := w.setCell ⟨b, pre.length, none⟩ v) (pre ++ [v]) l h2 (by simpa using hl)
      rw [show (pre ++ [v]).length = pre.length + 1 from by simp, show pre ++ [v] ++ vs = pre ++ v :: vs from by simp] at this
      exact this
theorem BC.put {w : World} {b : Nat} {zs zs' : List Int} {gs gs' : List Bool} {st st' : Int} (h : BC w b zs gs st) (h1 : zs'.length = zs.length) (h2 : gs'.length = gs.length) : BC (w.setCells b 0 (chipC zs' gs' st')) b zs' gs' st' := by
  have := setCells_list (chipC zs' gs' st') [] (chipC zs gs st) h (by rw [chipC_len, chipC_len, h1, h2])
  exact this
theorem BC.far' {w : World} {b b' : Nat} {zs : List Int} {gs : List Bool} {st : Int} (h : BC w b zs gs st) (hb : b ≠ b') (o : Nat) (vs : List Value) : BC (w.setCells b' o vs) b zs gs st := setCells_far h hb o vs
theorem below_setCellsC {w0 w : World} {b : Nat} (h : Below w0.heap.size w0 w) (hb : w0.heap.size ≤ b) : ∀ (o : Nat) (cs : List Value), Below w0.heap.size w0 (w.setCells b o cs) := by
  intro o cs
  induction cs generalizing w o with
  | nil => exact h
  | cons v vs ih => exact ih (h.setCell (p := ⟨b, o, none⟩) hb v) (o + 1)
theorem results_cellC {P : Program} {fn : Func} {tmps : Array Value} {w : World} {a : Nat} {t : TypeId} {p : Addr} {v : Value} (h : fn.results = #[.cell a t]) (hp : tmps.getD a undef = .pointer (some p)) (hv : (loadVar t p).run P w = .ok v w) : (results fn tmps).run P w = .ok v w := by
  unfold results
  rw [h]
  simp only [List.mapM_toArray, List.mapM_cons, List.mapM_nil, hp]
  simp [asAddr, hv]

def zZ : List Int := List.replicate 256 0
def zG : List Bool := List.replicate 16 false
theorem zZ_len : zZ.length = 256 := List.length_replicate
theorem zG_len : zG.length = 16 := List.length_replicate
def zC : List Value := chipC zZ zG 0
theorem chipC_273 {zs : List Int} {gs : List Bool} (hz : zs.length = 256) (hg : gs.length = 16) (st : Int) : (chipC zs gs st).length = 273 := by rw [chipC_len, hz, hg]
theorem BC.there273 {w : World} {b : Nat} {zs : List Int} {gs : List Bool} {st : Int} (h : BC w b zs gs st) (hz : zs.length = 256) (hg : gs.length = 16) : w.there b 0 273 := by
  have := h.there
  rwa [chipC_273 hz hg] at this
theorem BC.newZ (w : World) : BC (w.alloc (.cells zC.toArray 94)) w.heap.size zZ zG 0 := Box.new _ _ _
set_option maxRecDepth 100000 in
theorem infoC : (Tryz.prog.info? 94).map (fun i => (i.zero, i.size)) = some (some (.agg zC.toArray), 273) := by kernel_rfl
set_option maxRecDepth 100000 in
theorem infoCx : ∃ i : TypeInfo, Tryz.prog.info? 94 = some i ∧ i.zero = some (.agg zC.toArray) := by
  obtain ⟨i, hi, hzz⟩ := Option.map_eq_some_iff.1 infoC
  simp only [Prod.mk.injEq] at hzz
  exact ⟨i, hi, hzz.1⟩
set_option maxRecDepth 100000 in
theorem sizeC (zs : List Int) (gs : List Bool) (st : Int) (hz : zs.length = 256) (hg : gs.length = 16) : (Tryz.prog.info? 94).map (·.size) = some (chipC zs gs st).length := by
  obtain ⟨i, hi, hzz⟩ := Option.map_eq_some_iff.1 infoC
  simp only [Prod.mk.injEq] at hzz
  rw [hi, chipC_len, hz, hg, Option.map_some, hzz.2]
theorem wpList_alloc_big {P : Program} {ops : Array Oper} {rest : List Oper} {op : Oper} {a : Act} {w : World} {Q : Exit → Act → World → Prop} (hgd : op.guard = none) (t : TypeId) (ho : op.op = .alloc t) (C : Array Value)
    (hz : ∃ i : TypeInfo, P.info? t = some i ∧ i.zero = some (.agg C)) (h : wpList P ops Q rest (a.put op.dst (.pointer (some ⟨w.heap.size, 0, none⟩))) (w.alloc (.cells C t))) : wpList P ops Q (op :: rest) a w :=
  wpList_plain hgd fun _ hK => by
    obtain ⟨i, hi, hz⟩ := hz
    have hr : (Instr.alloc t true (.tuple #[])).run P w = .ok (.pointer (some ⟨w.heap.size, 0, none⟩)) (w.alloc (.cells C t)) := by
      simp [Instr.alloc, zeroValue, typeInfo, hi, hz, newVar, newRow, newObj, Value.cells]
      rfl
    unfold Oper.wp execOp
    simp only [ho, Sem.run_bind, Sem.run_pure, Result.andThen_ok, hr]
    exact hK _ _ h
theorem wpList_alloc_at {P : Program} {ops : Array Oper} {rest : List Oper} {op : Oper} {a : Act} {w : World} {Q : Exit → Act → World → Prop} (hgd : op.guard = none) (t : TypeId) (ho : op.op = .alloc t) (C : Array Value)
    (hz : ∃ i : TypeInfo, P.info? t = some i ∧ i.zero = some (.agg C)) (b : Nat) (hb : w.heap.size = b) (h : wpList P ops Q rest (a.put op.dst (.pointer (some ⟨b, 0, none⟩))) (w.alloc (.cells C t))) : wpList P ops Q (op :: rest) a w :=
  wpList_alloc_big hgd t ho C hz (by rw [hb]; exact h)
end Go.Proofs.YtcchhbkbnbphhaaGreatDoor

/- Contracts of chip.protect, chip.program, chip.erase. -/
namespace Go.Proofs.YtcchhbkbnbphhaaGreatDoor
open Go.RowKit

def GivesChip (zs : List Int) (gs : List Bool) (st : Int) (w : World) (e : Ending) (w' : World) : Prop := e = .returned (.agg (chipC zs gs st).toArray) ∧ Below w.heap.size w w'

structure Hands (W : World) (b b' : Nat) (cs : List Value) : Prop where
  range : W.rangeAt b 0 cs
  room : W.there b' 0 cs.toArray.size
  one : cs.toArray.all (·.oneCell') = true
  size : (Tryz.prog.info? 94).map (·.size) = some cs.length
  size' : (Tryz.prog.info? 94).map (·.size) = some cs.toArray.size
  back : (loadVar 94 ⟨b', 0, none⟩).run Tryz.prog (W.setCells b' 0 cs) = .ok (.agg cs.toArray) (W.setCells b' 0 cs)
set_option maxRecDepth 100000 in
theorem BC.hands {W : World} {b b' : Nat} {zs zs' : List Int} {gs gs' : List Bool} {st st' : Int} (h : BC W b zs gs st) (h' : BC W b' zs' gs' st') (hz : zs.length = 256) (hg : gs.length = 16) (hz' : zs'.length = 256) (hg' : gs'.length = 16) : Hands W b b' (chipC zs gs st) :=
  ⟨h.range, by rw [List.size_toArray, chipC_273 hz hg]; exact h'.there273 hz' hg', all_oneCell_toArray (chipC_one zs gs st), sizeC zs gs st hz hg, by rw [List.size_toArray]; exact sizeC zs gs st hz hg,
    run_loadVar_mid (P := Tryz.prog) _ b' 0 94 _ _ (h'.put (zs' := zs) (gs' := gs) (st' := st) (hz.trans hz'.symm) (hg.trans hg'.symm)).range Tryz.underlying94 rfl (sizeC zs gs st hz hg)⟩
theorem two_chips (w : World) (zs : List Int) (gs : List Bool) (st : Int) : BC ((w.alloc (.cells (chipC zs gs st).toArray 94)).alloc (.cells zC.toArray 94)) w.heap.size zs gs st ∧ BC ((w.alloc (.cells (chipC zs gs st).toArray 94)).alloc (.cells zC.toArray 94)) (w.heap.size + 1) zZ zG 0 ∧ Below w.heap.size w ((w.alloc (.cells (chipC zs gs st).toArray 94)).alloc (.cells zC.toArray 94)) :=
  ⟨(BC.new _ _ _ _).alloc _, by have := BC.newZ (w.alloc (.cells (chipC zs gs st).toArray 94)); rw [World.size_alloc] at this; exact this, bt (alloc_below _ _) (alloc_below _ _)⟩

set_option maxRecDepth 100000 in
set_option maxHeartbeats 1000000 in
theorem chipProtect (k : Nat) (zs : List Int) (gs : List Bool) (st : Int) (w : World) (hz : zs.length = 256) (hg : gs.length = 16) (hk : k < 16) :
    Calls Tryz.prog 156 #[.agg (chipC zs gs st).toArray, .int .i64 k] w (GivesChip zs (gs.set k true) st w) := by
  obtain ⟨X0, Y0, hb0⟩ := two_chips w zs gs st
  have hc := X0.guard hz k (by omega)
  have hf := X0.frozen (256 + k)
  generalize gs.getD k false = q at hc
  obtain ⟨X1, Y1, hb1⟩ := two_chips w zs (gs.set k true) st
  have HE := Lib.hid (chipC_setGuard (st := st) hz k true (show k < gs.length by omega))
  have HH := Lib.hid (X1.hands Y1 hz (by rw [List.length_set]; exact hg) zZ_len zG_len)
  have HB := Lib.hid hb1
  generalize hcs : chipC zs (gs.set k true) st = cs at HE HH HB
  have HCs := Lib.hid hcs
  obtain ⟨W1, hW1⟩ : ∃ W1, W1 = (w.alloc (.cells cs.toArray 94)).alloc (.cells zC.toArray 94) := ⟨_, rfl⟩
  rw [← hW1] at HH HB
  have HW1 := Lib.hid hW1
  have hki : (k : Int) < 16 := by omega
  clear hz hg X0 Y0 X1 Y1 hb0 hb1 hcs hW1
  go_enter Tryz.func156, Tryz.ntmps156
  go_wp2_with (first
    | (with_reducible refine wpList_alloc_big rfl 94 rfl zC.toArray infoCx ?_)
    | (rw [HE.out, ← HW1.out]; with_reducible refine wpList_load_mid rfl 94 (.tmp 2) rfl w.heap.size 0 rfl cs _ HH.out.range Tryz.underlying94 rfl HH.out.size ?_)
    | (with_reducible refine wpList_store_mid rfl 94 (.tmp 4) (.tmp 8) rfl (w.heap.size + 1) 0 cs.toArray rfl rfl HH.out.room HH.out.size' HH.out.one ?_))
  refine bodyPost_ret (v := .agg cs.toArray) (results_cellC Tryz.results156 (by rfl) HH.out.back) rfl ?_
  exact ⟨by rw [HCs.out], below_setCellsC HB.out (by omega) 0 cs⟩

set_option maxRecDepth 100000 in
set_option maxHeartbeats 1000000 in
theorem chipProgram (k v : Nat) (zs : List Int) (gs : List Bool) (st : Int) (w : World) (hz : zs.length = 256) (hg : gs.length = 16) (hk : k < 256) (hv : v < 256) (hzs : ∀ z ∈ zs, 0 ≤ z ∧ z ≤ 255) :
    Calls Tryz.prog 154 #[.agg (chipC zs gs st).toArray, .int .i64 k, .int .u8 v] w (GivesChip (progL zs gs k v) gs st w) := by
  obtain ⟨X0, Y0, hb0⟩ := two_chips w zs gs st
  have hc := X0.cell k (by omega)
  have hf := X0.frozen k
  have hd := X0.guard hz (k / 16) (by omega)
  obtain ⟨z, hzk, hz2⟩ := at256 hzs k (by omega)
  obtain ⟨x, hx⟩ : ∃ x, bits .and .u8 (z : Int) (v : Int) = x := ⟨_, rfl⟩
  have HP : Hid (∀ q, gs.getD (k / 16) false = q → progL zs gs k v = if q then zs else zs.set k x) := Lib.hid (by
    intro q hq
    unfold progL
    rw [hq, hzk, ← hx, and_u8 z v hz2 hv]
    rfl)
  rw [hzk] at hc
  have hkd : ((k / 16 : Nat) : Int) < 16 := by omega
  have hki : (k : Int) < 256 := by omega
  have HB := Lib.hid (fun W => blockOf k (by omega) W)
  have HP2 := Lib.hid (HP.out _ rfl)
  generalize gs.getD (k / 16) false = q at hd HP2
  cases q
  · obtain ⟨X1, Y1, hb1⟩ := two_chips w (zs.set k x) gs st
    have HE := Lib.hid (chipC_setCell (gs := gs) (st := st) k x (show k < zs.length by omega))
    have HH := Lib.hid (X1.hands Y1 (by rw [List.length_set]; exact hz) hg zZ_len zG_len)
    have HBl := Lib.hid hb1
    have HR : Hid (progL zs gs k v = zs.set k x) := Lib.hid (by rw [HP2.out]; rfl)
    rw [← HR.out] at HE HH HBl
    generalize hcs : chipC (progL zs gs k v) gs st = cs at HE HH HBl
    have HCs := Lib.hid hcs
    obtain ⟨W1, hW1⟩ : ∃ W1, W1 = (w.alloc (.cells cs.toArray 94)).alloc (.cells zC.toArray 94) := ⟨_, rfl⟩
    rw [← hW1] at HH HBl
    have HW1 := Lib.hid hW1
    clear hz hg X0 Y0 X1 Y1 hb0 hb1 hcs hW1 HP HP2 HR hzs hzk
    go_enter Tryz.func154, Tryz.ntmps154
    go_wp2_with (first
      | (with_reducible refine wpList_alloc_big rfl 94 rfl zC.toArray infoCx ?_)
      | (go_at_call 157; refine (HB.out _).mono ?_; rintro e w' ⟨rfl, rfl⟩)
      | (rw [HE.out, ← HW1.out]; with_reducible refine wpList_load_mid rfl 94 (.tmp 3) rfl w.heap.size 0 rfl cs _ HH.out.range Tryz.underlying94 rfl HH.out.size ?_)
      | (with_reducible refine wpList_store_mid rfl 94 (.tmp 6) (.tmp 21) rfl (w.heap.size + 1) 0 cs.toArray rfl rfl HH.out.room HH.out.size' HH.out.one ?_))
    refine bodyPost_ret (v := .agg cs.toArray) (results_cellC Tryz.results154 (by rfl) HH.out.back) rfl ?_
    exact ⟨by rw [HCs.out], below_setCellsC HBl.out (by omega) 0 cs⟩
  · have HH := Lib.hid (X0.hands Y0 hz hg zZ_len zG_len)
    have HBl := Lib.hid hb0
    have HR : Hid (progL zs gs k v = zs) := Lib.hid (by rw [HP2.out]; rfl)
    generalize hcs : chipC zs gs st = cs at HH HBl hc hf hd
    have HCs : Hid (chipC (progL zs gs k v) gs st = cs) := Lib.hid (by rw [HR.out]; exact hcs)
    obtain ⟨W1, hW1⟩ : ∃ W1, W1 = (w.alloc (.cells cs.toArray 94)).alloc (.cells zC.toArray 94) := ⟨_, rfl⟩
    rw [← hW1] at HH HBl
    have HW1 := Lib.hid hW1
    clear hz hg X0 Y0 hb0 hcs hW1 HP HP2 HR hzs hzk
    go_enter Tryz.func154, Tryz.ntmps154
    go_wp2_with (first
      | (with_reducible refine wpList_alloc_big rfl 94 rfl zC.toArray infoCx ?_)
      | (go_at_call 157; refine (HB.out _).mono ?_; rintro e w' ⟨rfl, rfl⟩)
      | (rw [← HW1.out]; with_reducible refine wpList_load_mid rfl 94 (.tmp 3) rfl w.heap.size 0 rfl cs _ HH.out.range Tryz.underlying94 rfl HH.out.size ?_)
      | (with_reducible refine wpList_store_mid rfl 94 (.tmp 6) (.tmp 21) rfl (w.heap.size + 1) 0 cs.toArray rfl rfl HH.out.room HH.out.size' HH.out.one ?_))
    refine bodyPost_ret (v := .agg cs.toArray) (results_cellC Tryz.results154 (by rfl) HH.out.back) rfl ?_
    exact ⟨by rw [HCs.out], below_setCellsC HBl.out (by omega) 0 cs⟩

set_option maxRecDepth 100000 in
set_option maxHeartbeats 2000000 in
theorem chipErase (k : Nat) (zs : List Int) (gs : List Bool) (st : Int) (w : World) (hz : zs.length = 256) (hg : gs.length = 16) (hk : k < 16) :
    Calls Tryz.prog 159 #[.agg (chipC zs gs st).toArray, .int .i64 k] w (GivesChip (eraseL zs gs k) gs st w) := by
  obtain ⟨X0, Y0, hb0⟩ := two_chips w zs gs st
  have hd := X0.guard hz k (by omega)
  have HP : Hid (∀ q, gs.getD k false = q → eraseL zs gs k = if q then zs else fillR zs (k * 16) (k * 16 + 16)) := Lib.hid (by intro q hq; unfold eraseL; rw [hq])
  have hki : (k : Int) < 16 := by omega
  have HP2 := Lib.hid (HP.out _ rfl)
  generalize gs.getD k false = q at hd HP2
  cases q
  · have HR : Hid (eraseL zs gs k = fillR zs (k * 16) (k * 16 + 16)) := Lib.hid (by rw [HP2.out]; rfl)
    have HL := Lib.hid (And.intro hz hg)
    have HX := Lib.hid (And.intro X0 (And.intro Y0 hb0))
    clear hz hg X0 Y0 hb0 HP HP2
    go_enter Tryz.func159, Tryz.ntmps159
    go_wp2_with (first
      | (with_reducible refine wpList_alloc_big rfl 94 rfl zC.toArray infoCx ?_))
    go_loopw [11] (fun i wr => ∃ j : Nat, j ≤ 16 ∧ i = .int .i64 j ∧ Below w.heap.size w wr ∧ Hid (BC wr w.heap.size (fillR zs (k * 16) (k * 16 + j)) gs st) ∧ Hid (BC wr (w.heap.size + 1) zZ zG 0)) (fun i _ => 16 - (intOf i).toNat)
    case atStart => exact ⟨0, by omega, rfl, HX.out.2.2, Lib.hid (by rw [Nat.add_zero, fillR_none]; exact HX.out.1), Lib.hid HX.out.2.1⟩
    case round =>
      clear HX hd
      obtain ⟨j, hj, rfl, hbw, X, Y⟩ := hrel
      by_cases hlt : j < 16
      · have hc := X.out.cell (k * 16 + j) (by rw [fillR_len]; have := HL.out; omega)
        have hf := X.out.frozen (k * 16 + j)
        generalize (fillR zs (k * 16) (k * 16 + j)).getD (k * 16 + j) 0 = z at hc
        have hX := X.out.setC (k * 16 + j) 255 (by rw [fillR_len]; have := HL.out; omega)
        rw [fillR_next _ _ _ (by omega) (by have := HL.out; omega)] at hX
        have HXn := Lib.hid hX
        have HYn := Lib.hid (Y.out.far (p := ⟨w.heap.size, k * 16 + j, none⟩) (by show w.heap.size + 1 ≠ w.heap.size; omega) (.int .u8 255))
        have hb' : Below w.heap.size w (wr.setCell ⟨w.heap.size, k * 16 + j, none⟩ (.int .u8 255)) := hbw.setCell (p := ⟨w.heap.size, k * 16 + j, none⟩) (Nat.le_refl _) _
        have hi : (j : Int) < 16 := by omega
        have hidx : (k : Int) * 16 + (j : Int) < 256 := by omega
        clear hX X Y hbw
        go_wp2
        go_roundw
        case rel => exact ⟨j + 1, by omega, by go_num, hb', HXn, HYn⟩
        case measure => simp [intOf]; omega
      · obtain rfl : j = 16 := by omega
        have HH := Lib.hid (X.out.hands Y.out (by rw [fillR_len]; exact HL.out.1) HL.out.2 zZ_len zG_len)
        rw [← HR.out] at HH
        generalize hcs : chipC (eraseL zs gs k) gs st = cs at HH
        have HCs := Lib.hid hcs
        clear hcs X Y
        go_wp2_with (first
          | (with_reducible refine wpList_load_mid rfl 94 (.tmp 2) rfl w.heap.size 0 rfl cs _ HH.out.range Tryz.underlying94 rfl HH.out.size ?_)
          | (with_reducible refine wpList_store_mid rfl 94 (.tmp 4) (.tmp 21) rfl (w.heap.size + 1) 0 cs.toArray rfl rfl HH.out.room HH.out.size' HH.out.one ?_))
        refine bodyPost_ret (v := .agg cs.toArray) (results_cellC Tryz.results159 (by rfl) HH.out.back) rfl ?_
        exact ⟨by rw [HCs.out], below_setCellsC hbw (by omega) 0 cs⟩
  · have HH := Lib.hid (X0.hands Y0 hz hg zZ_len zG_len)
    have HBl := Lib.hid hb0
    have HR : Hid (eraseL zs gs k = zs) := Lib.hid (by rw [HP2.out]; rfl)
    generalize hcs : chipC zs gs st = cs at HH HBl hd
    have HCs : Hid (chipC (eraseL zs gs k) gs st = cs) := Lib.hid (by rw [HR.out]; exact hcs)
    obtain ⟨W1, hW1⟩ : ∃ W1, W1 = (w.alloc (.cells cs.toArray 94)).alloc (.cells zC.toArray 94) := ⟨_, rfl⟩
    rw [← hW1] at HH HBl
    have HW1 := Lib.hid hW1
    clear hz hg X0 Y0 hb0 hcs hW1 HP HP2 HR
    go_enter Tryz.func159, Tryz.ntmps159
    go_wp2_with (first
      | (with_reducible refine wpList_alloc_big rfl 94 rfl zC.toArray infoCx ?_)
      | (rw [← HW1.out]; with_reducible refine wpList_load_mid rfl 94 (.tmp 2) rfl w.heap.size 0 rfl cs _ HH.out.range Tryz.underlying94 rfl HH.out.size ?_)
      | (with_reducible refine wpList_store_mid rfl 94 (.tmp 4) (.tmp 10) rfl (w.heap.size + 1) 0 cs.toArray rfl rfl HH.out.room HH.out.size' HH.out.one ?_))
    refine bodyPost_ret (v := .agg cs.toArray) (results_cellC Tryz.results159 (by rfl) HH.out.back) rfl ?_
    exact ⟨by rw [HCs.out], below_setCellsC HBl.out (by omega) 0 cs⟩
end Go.Proofs.YtcchhbkbnbphhaaGreatDoor

/- The contract of chipOf: a flash as a chip. -/
namespace Go.Proofs.YtcchhbkbnbphhaaGreatDoor
open Go.RowKit

def takeZ (zs : List Int) (j : Nat) : List Int := (List.range 256).map fun i => if i < j then zs.getD i 0 else 0
theorem takeZ_len (zs : List Int) (j : Nat) : (takeZ zs j).length = 256 := by simp [takeZ]
theorem takeZ_at (zs : List Int) (j i : Nat) (h : i < 256) : (takeZ zs j).getD i 0 = if i < j then zs.getD i 0 else 0 := by
  unfold takeZ
  rw [List.getD_eq_getElem?_getD, List.getElem?_map, List.getElem?_range h]
  rfl
theorem takeZ_zero (zs : List Int) : takeZ zs 0 = zZ := by
  apply ext_getD 0 (by rw [takeZ_len, zZ_len])
  intro i hi
  rw [takeZ_len] at hi
  rw [takeZ_at _ _ _ hi, if_neg (by omega)]
  unfold zZ
  rw [List.getD_eq_getElem?_getD, List.getElem?_replicate, if_pos hi]
  rfl
theorem takeZ_all (zs : List Int) (h : zs.length = 256) : takeZ zs 256 = zs := by
  apply ext_getD 0 (by rw [takeZ_len, h])
  intro i hi
  rw [takeZ_len] at hi
  rw [takeZ_at _ _ _ hi, if_pos hi]
theorem takeZ_next (zs : List Int) (j : Nat) (hj : j < 256) : (takeZ zs j).set j (zs.getD j 0) = takeZ zs (j + 1) := by
  apply ext_getD 0 (by simp [takeZ_len])
  intro i hi
  have hi' : i < 256 := by simpa [takeZ_len] using hi
  rw [takeZ_at _ _ _ hi']
  by_cases e : i = j
  · subst e
    rw [List.getD_eq_getElem?_getD, List.getElem?_set_self (by rw [takeZ_len]; exact hj), if_pos (by omega)]
    rfl
  · rw [List.getD_eq_getElem?_getD, List.getElem?_set_ne (fun q => e q.symm), ← List.getD_eq_getElem?_getD, takeZ_at _ _ _ hi']
    by_cases q : i < j
    · rw [if_pos q, if_pos (by omega)]
    · rw [if_neg q, if_neg (by omega)]
theorem splice_guard (zs : List Int) (gs gs' : List Bool) (st : Int) (hz : zs.length = 256) (hg : gs.length = gs'.length) : splice (chipC zs gs st) 256 (cellsB gs') = chipC zs gs' st := by
  unfold splice chipC
  rw [List.take_append_of_le_length (by simp [hz]), List.take_of_length_le (by simp [hz]), List.drop_append, List.drop_of_length_le (by simp [hz]), cellsB_len, List.nil_append, List.length_map, hz, show 256 + gs'.length - 256 = gs'.length by omega, List.drop_append, List.drop_of_length_le (by simp [hg]), List.nil_append, List.length_map, hg, Nat.sub_self]
  rfl
set_option maxRecDepth 100000 in
theorem szBool : (Tryz.prog.info? 4).map (·.size) = some 1 := by kernel_rfl
theorem zC_len : zC.length = 273 := chipC_273 zZ_len zG_len 0
theorem zC_set (st : Int) : zC.set 272 (.int .i64 st) = chipC zZ zG st := chipC_setState zZ_len zG_len st
set_option maxRecDepth 100000 in
theorem buildChip (st : Int) (w : World) : (Instr.build 94 #[(2, .int .i64 st)]).run Tryz.prog w = .ok (.agg (chipC zZ zG st).toArray) w := by
  obtain ⟨i, hi, hz⟩ := infoCx
  have hzv : (zeroValue 94).run Tryz.prog w = .ok (.agg zC.toArray) w := by simp [zeroValue, typeInfo, hi, hz]
  have hf : Instr.fill (fun x => ([(0, 256), (256, 16), (272, 1)] : List (Nat × Nat))[x]?) zC.toArray [(2, Value.int .i64 st)] = some (chipC zZ zG st).toArray := by
    simp [Instr.fill, Value.cells, zC_len, zC_set]
  simp [Instr.build, hzv, Value.cells, hf]
theorem wpList_build_chip {P : Program} {ops : Array Oper} {rest : List Oper} {op : Oper} {a : Act} {w : World} {Q : Exit → Act → World → Prop} {t : TypeId} (hgd : op.guard = none) (x : Operand) (v : Value) (cs : List Value) (ho : op.op = .build t #[(2, x)]) (hx : a.eval x = v)
    (hr : (Instr.build t #[(2, v)]).run P w = .ok (.agg cs.toArray) w)
    (h : wpList P ops Q rest (a.put op.dst (.agg cs.toArray)) w) : wpList P ops Q (op :: rest) a w :=
  wpList_plain hgd fun _ hK => by
    unfold Oper.wp execOp
    simp only [ho, Sem.run_bind, Sem.run_pure, Result.andThen_ok, List.map_toArray, List.map_cons, List.map_nil, hx, hr]
    exact hK _ _ h

set_option maxRecDepth 100000 in
set_option maxHeartbeats 4000000 in
theorem chipOf (A C : Option Addr) (n c m d : Nat) (st : Int) (zs : List Int) (gs : List Bool) (w : World) (hl : zs.length = n) (hm : gs.length = m) (hn : n = 256) (hmm : m = 16) (hz : ∀ z ∈ zs, 0 ≤ z ∧ z ≤ 255) (h : IntL w A zs) (g : BoolL w C gs) :
    Calls Tryz.prog 80 #[.agg #[.slice A n c, .slice C m d, .int .i64 st]] w (GivesChip zs gs st w) := by
  obtain ⟨W2, hW2⟩ : ∃ W2, W2 = (((w.alloc (.cells #[.slice A n c, .slice C m d, .int .i64 st] 29)).alloc (.cells zC.toArray 94)).alloc (.cells zC.toArray 94)) := ⟨_, rfl⟩
  have hb2 : Below w.heap.size w W2 := by rw [hW2]; exact bt (bt (alloc_below _ _) (alloc_below _ _)) (alloc_below _ _)
  have X2 : Box W2 w.heap.size 29 #[.slice A n c, .slice C m d, .int .i64 st] := by rw [hW2]; exact ((Box.new _ _ _).alloc _).alloc _
  have Y2 : BC W2 (w.heap.size + 1) zZ zG 0 := by rw [hW2]; have := (BC.newZ (w.alloc (.cells #[.slice A n c, .slice C m d, .int .i64 st] 29))).alloc (.cells zC.toArray 94); rw [World.size_alloc] at this; exact this
  have Z2 : BC W2 (w.heap.size + 1 + 1) zZ zG 0 := by rw [hW2]; have := BC.newZ ((w.alloc (.cells #[.slice A n c, .slice C m d, .int .i64 st] 29)).alloc (.cells zC.toArray 94)); rw [World.size_alloc, World.size_alloc] at this; exact this
  have HT : Hid (W2.there (w.heap.size + 1 + 1) 0 (chipC zZ zG st).toArray.size) := Lib.hid ((show (chipC zZ zG st).toArray.size = 273 from List.size_toArray.trans (chipC_273 zZ_len zG_len st)) ▸ Z2.there273 zZ_len zG_len)
  have HS : Hid ((Tryz.prog.info? 94).map (·.size) = some (chipC zZ zG st).toArray.size) := Lib.hid (by rw [List.size_toArray]; exact sizeC zZ zG st zZ_len zG_len)
  have HO := Lib.hid (all_oneCell_toArray (chipC_one zZ zG st))
  have Z3 := Lib.hid (Z2.put (zs' := zZ) (gs' := zG) (st' := st) rfl rfl)
  have X3 := Lib.hid (setCells_far X2 (show w.heap.size ≠ w.heap.size + 1 + 1 by omega) 0 (chipC zZ zG st))
  have Y3 := Lib.hid (Y2.far' (show w.heap.size + 1 ≠ w.heap.size + 1 + 1 by omega) 0 (chipC zZ zG st))
  have hb3 := below_setCellsC hb2 (show w.heap.size ≤ w.heap.size + 1 + 1 by omega) 0 (chipC zZ zG st)
  have x0 := X2.cell 0 rfl
  have x2 := X2.cell 2 rfl
  have x0' := X3.out.cell 0 rfl
  have HL := Lib.hid (And.intro (hl.trans hn) (hm.trans hmm))
  have HZ := Lib.hid hz
  have H := Lib.hid (And.intro h g)
  have HSb := Lib.hid (fun W (hb : Below w.heap.size w W) => (g.below hb).src (by omega))
  have HW2 := Lib.hid hW2
  have HBd := Lib.hid (fun W => buildChip st W)
  have HIn := Lib.hid infoCx
  generalize hzc : zC.toArray = zc at HW2 HIn
  generalize hcz : chipC zZ zG st = cz at HT HS HO Z3 X3 Y3 hb3 x0' HBd
  have HCz := Lib.hid hcz
  rw [HW2.out] at HT x0 x2 x0'
  subst hn hmm
  clear hl hm hz h g X2 Y2 Z2 hW2 hzc hcz
  go_enter Tryz.func80, Tryz.ntmps80
  go_wp2_with (first
    | (with_reducible refine wpList_alloc_at rfl 94 rfl zc HIn.out (w.heap.size + 1 + 1) ((World.size_alloc _ _).trans (congrArg (· + 1) (World.size_alloc _ _))) ?_)
    | (with_reducible refine wpList_alloc_at rfl 94 rfl zc HIn.out (w.heap.size + 1) (World.size_alloc _ _) ?_)
    | (with_reducible refine wpList_build_chip rfl (.tmp 7) (.int .i64 st) cz rfl rfl (HBd.out _) ?_)
    | (with_reducible refine wpList_store_mid rfl 94 (.tmp 3) (.tmp 8) rfl (w.heap.size + 1 + 1) 0 cz.toArray rfl rfl HT.out HS.out HO.out ?_))
  rw [← HW2.out]
  have x0s : Hid True := Lib.hid trivial
  clear x0 x2 x0' HT HS HO HBd HIn x0s
  generalize W2.setCells (w.heap.size + 1 + 1) 0 cz = W3 at Z3 X3 Y3 hb3 ⊢
  clear hb2 HW2 HCz
  go_loopw [12] (fun i wr => ∃ j : Nat, j ≤ 256 ∧ i = .int .i64 j ∧ Below w.heap.size w wr ∧ Hid (Box wr w.heap.size 29 #[.slice A 256 c, .slice C 16 d, .int .i64 st]) ∧ Hid (BC wr (w.heap.size + 1) zZ zG 0) ∧ Hid (BC wr (w.heap.size + 1 + 1) (takeZ zs j) zG st)) (fun i _ => 256 - (intOf i).toNat)
  case atStart => exact ⟨0, by omega, rfl, hb3, X3, Y3, Lib.hid (by rw [takeZ_zero]; exact Z3.out)⟩
  case round =>
    clear hb3 X3 Y3 Z3
    obtain ⟨j, hj, rfl, hbw, X, Y, Z⟩ := hrel
    by_cases hlt : j < 256
    · obtain ⟨ab, aoff, rfl, hc⟩ := (H.out.1.below hbw) j (by rw [HL.out.1]; exact hlt)
      have hx := HZ.out (zs.getD j 0) (by rw [List.getD_eq_getElem?_getD, List.getElem?_eq_getElem (by rw [HL.out.1]; exact hlt)]; exact List.getElem_mem _)
      have hZ := Z.out.setC j (zs.getD j 0) (by rw [takeZ_len]; exact hlt)
      rw [takeZ_next zs j hlt] at hZ
      have hd := Z.out.cell j (by rw [takeZ_len]; exact hlt)
      generalize (takeZ zs j).getD j 0 = y at hd
      generalize zs.getD j 0 = x at hc hx hZ
      have hf := Z.out.frozen j
      have HZn := Lib.hid hZ
      have HXn := Lib.hid (X.out.far (p := ⟨w.heap.size + 1 + 1, j, none⟩) (by show w.heap.size ≠ w.heap.size + 1 + 1; omega) (.int .u8 x))
      have HYn := Lib.hid (Y.out.far (p := ⟨w.heap.size + 1 + 1, j, none⟩) (by show w.heap.size + 1 ≠ w.heap.size + 1 + 1; omega) (.int .u8 x))
      have hb' : Below w.heap.size w (wr.setCell ⟨w.heap.size + 1 + 1, j, none⟩ (.int .u8 x)) := hbw.setCell (p := ⟨w.heap.size + 1 + 1, j, none⟩) (by show w.heap.size ≤ w.heap.size + 1 + 1; omega) _
      have hi : (j : Int) < 256 := by omega
      have hwr := wrap8 x hx.1 (by omega)
      have hmd : x % 256 = x := by omega
      clear hZ X Y Z hbw
      go_wp2
      go_roundw
      case rel => exact ⟨j + 1, by omega, by go_num, hb', HXn, HYn, HZn⟩
      case measure => simp [intOf]; omega
    · obtain rfl : j = 256 := by omega
      have hZ := Z.out
      rw [takeZ_all zs HL.out.1] at hZ
      have HZ3 := Lib.hid hZ
      have x1 := X.out.cell 1 rfl
      have h6 : Below (w.heap.size + 1 + 1) wr wr.drew := (Below.refl _ _).drew
      have HS1 := Lib.hid (HSb.out _ hbw.drew)
      have HCb : Hid ((cellsB gs).length = Nat.min 16 16) := Lib.hid (by rw [cellsB_len, HL.out.2]; rfl)
      have HFit : Hid (256 + (cellsB gs).length ≤ (chipC zs zG st).length) := Lib.hid (by rw [cellsB_len, HL.out.2, chipC_273 HL.out.1 zG_len]; omega)
      have HOne : Hid (∀ v ∈ cellsB gs, v.oneCell' = true) := Lib.hid (fun v hv => by unfold cellsB at hv; obtain ⟨q, _, rfl⟩ := List.mem_map.1 hv; rfl)
      have HSp := Lib.hid (splice_guard zs zG gs st HL.out.1 (zG_len.trans HL.out.2.symm))
      have HG : Hid (wr.drew.heap[w.heap.size + 1 + 1]? = some (.cells (chipC zs zG st).toArray 94 (0, 0))) := Lib.hid hZ
      generalize cellsB gs = cb at HS1 HCb HFit HOne HSp
      generalize chipC zs zG st = ca at HFit HSp HG
      clear hZ Z
      have HK : Hid (∀ W', Below (w.heap.size + 1 + 1) wr W' → W'.cell? ⟨w.heap.size, 1, none⟩ = some (.slice C 16 d)) := Lib.hid (fun W' hb => (X.out.below hb (by omega)).cell 1 rfl)
      have HY : Hid (∀ W', Below (w.heap.size + 1 + 1) wr W' → BC W' (w.heap.size + 1) zZ zG 0) := Lib.hid (fun W' hb => Box.below Y.out hb (by omega))
      have HBw := Lib.hid hbw
      clear X Y x1 hbw
      go_wp2
      go_region_held3 (fun W => W.cell? ⟨w.heap.size, 1, none⟩ = some (.slice C 16 d))
        (first | exact HK.out _ h6 | exact HK.out _ hb2)
        (first | (refine step_copy_splice rfl (.tmp 24) (.tmp 26) 27 27 rfl 4 Tryz.underlying27 szBool _ _ 16 16 16 d rfl rfl (w.heap.size + 1 + 1) 256 ca 94 HG.out cb HCb.out (fun _ => ⟨rfl, HS1.out⟩) HFit.out HOne.out (w.heap.size + 1 + 1) wr h6 (Nat.le_refl _) ?_; intro w2 hg2 hb2))
      have hZ : BC w2 (w.heap.size + 1 + 1) zs gs st := by have := hg2.out; rw [HSp.out] at this; exact this
      have HH := Lib.hid (hZ.hands (HY.out _ hb2) HL.out.1 HL.out.2 zZ_len zG_len)
      have hbz : Below w.heap.size w w2 := HBw.out.trans (hb2.mono (by omega))
      generalize hcs : chipC zs gs st = cs at HH
      have HCs := Lib.hid hcs
      clear hcs hZ HY HK HSp HG HS1 HCb HFit HOne hg2 hb2 h6
      go_wp2_with (first
        | (with_reducible refine wpList_load_mid rfl 94 (.tmp 3) rfl (w.heap.size + 1 + 1) 0 rfl cs _ HH.out.range Tryz.underlying94 rfl HH.out.size ?_)
        | (with_reducible refine wpList_store_mid rfl 94 (.tmp 2) (.tmp 28) rfl (w.heap.size + 1) 0 cs.toArray rfl rfl HH.out.room HH.out.size' HH.out.one ?_))
      refine bodyPost_ret (v := .agg cs.toArray) (results_cellC Tryz.results80 (by rfl) HH.out.back) rfl ?_
      exact ⟨by rw [HCs.out], below_setCellsC hbz (by omega) 0 cs⟩
end Go.Proofs.YtcchhbkbnbphhaaGreatDoor
