/- The model's own copy of a flash, and what it does to one: l03Own, l03Program, l03Erase, l03Guard. -/
import Derived.Test.YtieljgoodmoacaaFlashBits
import Derived.Test.YtieljgoodmoacaaAppNew
import Derived.Test.YtieljgoodmoacaaApp
namespace Go.Proofs.Ytieljgoodmoacaa
open Go.RowKit

theorem ext_getD {α : Type} (d : α) {l m : List α} (hl : l.length = m.length) (h : ∀ i, i < l.length → l.getD i d = m.getD i d) : l = m := by
  apply List.ext_getElem hl
  intro i h1 h2
  have := h i h1
  rw [List.getD_eq_getElem?_getD, List.getD_eq_getElem?_getD, List.getElem?_eq_getElem h1, List.getElem?_eq_getElem h2] at this
  exact this
/-- The cells from a on and below b are 255. -/
def fillR (zs : List Int) (a b : Nat) : List Int := (List.range zs.length).map fun i => if a ≤ i ∧ i < b then 255 else zs.getD i 0
theorem fillR_len (zs : List Int) (a b : Nat) : (fillR zs a b).length = zs.length := by simp [fillR]
theorem fillR_at (zs : List Int) (a b i : Nat) (h : i < zs.length) : (fillR zs a b).getD i 0 = if a ≤ i ∧ i < b then 255 else zs.getD i 0 := by
  unfold fillR
  rw [List.getD_eq_getElem?_getD, List.getElem?_map, List.getElem?_range h]
  rfl
theorem fillR_none (zs : List Int) (a : Nat) : fillR zs a a = zs := by
  apply ext_getD 0 (fillR_len _ _ _)
  intro i hi
  rw [fillR_len] at hi
  rw [fillR_at _ _ _ _ hi, if_neg (by omega)]
theorem fillR_next (zs : List Int) (a b : Nat) (hab : a ≤ b) (hb : b < zs.length) : (fillR zs a b).set b 255 = fillR zs a (b + 1) := by
  apply ext_getD 0 (by simp [fillR_len])
  intro i hi
  have hi' : i < zs.length := by simpa [fillR_len] using hi
  rw [fillR_at _ _ _ _ hi']
  by_cases e : i = b
  · subst e
    rw [List.getD_eq_getElem?_getD, List.getElem?_set_self (by rw [fillR_len]; exact hb), if_pos ⟨hab, by omega⟩]
    rfl
  · rw [List.getD_eq_getElem?_getD, List.getElem?_set_ne (fun q => e q.symm), ← List.getD_eq_getElem?_getD, fillR_at _ _ _ _ hi']
    by_cases q : a ≤ i ∧ i < b
    · rw [if_pos q, if_pos (by omega)]
    · rw [if_neg q, if_neg (by omega)]
def progL (zs : List Int) (gs : List Bool) (k v : Nat) : List Int := if gs.getD (k / 16) false then zs else zs.set k (((zs.getD k 0).toNat &&& v : Nat) : Int)
def eraseL (zs : List Int) (gs : List Bool) (b : Nat) : List Int := if gs.getD b false then zs else fillR zs (b * 16) (b * 16 + 16)
theorem progL_len (zs : List Int) (gs : List Bool) (k v : Nat) : (progL zs gs k v).length = zs.length := by unfold progL; split <;> simp
theorem eraseL_len (zs : List Int) (gs : List Bool) (b : Nat) : (eraseL zs gs b).length = zs.length := by unfold eraseL; split <;> simp [fillR_len]

set_option maxRecDepth 100000 in
set_option maxHeartbeats 4000000 in
theorem l03OwnC (A C : Option Addr) (n c m d : Nat) (st : Int) (zs : List Int) (gs : List Bool) (w : World) (hl : zs.length = n) (hm : gs.length = m) (hn : n = 256) (hmm : m = 16) (h : IntL w A zs) (g : BoolL w C gs) :
    Calls Try.prog 65 #[.agg #[.slice A n c, .slice C m d, .int .i64 st]] w (GivesFlashC zs gs st w) := by
  obtain ⟨W0, hW0⟩ : ∃ W0, W0 = ((w.alloc (.cells #[.slice A n c, .slice C m d, .int .i64 st] 43)).alloc (.cells #[.slice none 0 0, .slice none 0 0, .int .i64 0] 43)) := ⟨_, rfl⟩
  have hb0 : Below w.heap.size w W0 := by rw [hW0]; exact bt (alloc_below _ _) (alloc_below _ _)
  have X0 : Box W0 w.heap.size 43 #[.slice A n c, .slice C m d, .int .i64 st] := by rw [hW0]; exact (Box.new _ _ _).alloc _
  have Y0 : Box W0 (w.heap.size + 1) 43 #[.slice none 0 0, .slice none 0 0, .int .i64 0] := by rw [hW0]; simpa using Box.new (w.alloc (.cells #[.slice A n c, .slice C m d, .int .i64 st] 43)) 43 #[.slice none 0 0, .slice none 0 0, .int .i64 0]
  have HL := Lib.hid (And.intro hl hm)
  have HSi := Lib.hid (fun W (hb : Below w.heap.size w W) => (h.below hb).src (by omega))
  have HSb := Lib.hid (fun W (hb : Below w.heap.size w W) => (g.below hb).src (by omega))
  have HCi : Hid ((cellsI zs).length = n * 1) := Lib.hid (by rw [cellsI_len]; omega)
  have HCb : Hid ((cellsB gs).length = m * 1) := Lib.hid (by rw [cellsB_len]; omega)
  have hn1 : 0 < n := by omega
  have hm1 : 0 < m := by omega
  have hn2 : n ≤ 256 := by omega
  have hm2 : m ≤ 16 := by omega
  have HW0 := Lib.hid hW0
  have f0 := X0.cell 0 rfl
  have HX := Lib.hid (And.intro X0 Y0)
  have hba := bt hb0 (alloc_below W0 (.cells #[] 3))
  clear hl hm h g hW0 X0 Y0 hn hmm
  go_enter Try.func65, Try.ntmps65
  go_wp2_with (first | (rw [← HW0.out]; with_reducible refine wpList_app_fresh rfl (.tmp 3) (.tmp 5) 22 rfl 3 (.int .i64 0) 1 8 Try.underlying22 infoIx rfl (by decide) _ rfl A n c hn1 (cellsI zs) rfl HCi.out (HSi.out _ hba) (by unfold maxLen; omega) (by omega) ?_))
  intro A1 c1 w1 hb1 O1
  have hk1 := (alloc_below W0 (.cells #[] 3)).trans (hb1.mono (by omega))
  have X1 := HX.out.1.step hk1
  have Y1 := HX.out.2.step hk1
  have KC : Hid (n ≤ c1) := Lib.hid (by obtain ⟨A', cap, hv, hle⟩ := rowv_form O1.out; injection hv with _ _ e3; omega)
  have S1 := Lib.hid (ownI_fresh (lo := w.heap.size) O1.out hn1 (by have := hb0.size; omega))
  have g0 := X1.cell 0 rfl
  have g0z := X1.frozen 0
  have g1 : ((w1.setCell ⟨w.heap.size, 0, none⟩ (.slice A1 n c1)).alloc (.cells #[] 4)).cell? ⟨w.heap.size, 1, none⟩ = some (.slice C m d) := ((X1.set 0 _).alloc _).cell 1 rfl
  have hb2 : Below w.heap.size w (w1.setCell ⟨w.heap.size, 0, none⟩ (.slice A1 n c1)) := (bt hb0 hk1).setCell (Nat.le_refl _) _
  have S2 := Lib.hid (S1.out.farB X1 (by decide) 0 (.slice A1 n c1))
  have HE : Hid (w1.heap.size = (w1.setCell ⟨w.heap.size, 0, none⟩ (.slice A1 n c1)).heap.size) := Lib.hid (by simp [World.setCell])
  rw [HE.out] at S2
  have HX2 := Lib.hid (And.intro (X1.set 0 (.slice A1 n c1)) (Y1.far (p := ⟨w.heap.size, 0, none⟩) (by show w.heap.size + 1 ≠ w.heap.size; omega) (.slice A1 n c1)))
  clear f0 HX hb0 hb1 O1 hk1 X1 Y1 S1 HE hba HSi HCi
  obtain ⟨w2, hw2⟩ : ∃ w2, w2 = w1.setCell ⟨w.heap.size, 0, none⟩ (.slice A1 n c1) := ⟨_, rfl⟩
  rw [← hw2] at hb2 S2 HX2
  have HW2 := Lib.hid hw2
  clear hw2
  have hbb := bt hb2 (alloc_below w2 (.cells #[] 4))
  go_wp2_with (first | (rw [← HW2.out]; with_reducible refine wpList_app_fresh rfl (.tmp 8) (.tmp 10) 37 rfl 4 (.bool false) 1 1 Try.underlying37 infoBx rfl (by decide) _ rfl C m d hm1 (cellsB gs) rfl HCb.out (HSb.out _ hbb) (by unfold maxLen; omega) (by omega) ?_))
  intro A3 c3 w3 hb3 O3
  have hk3 := (alloc_below w2 (.cells #[] 4)).trans (hb3.mono (by omega))
  have V1 := HX2.out.1.step hk3
  have V2 := HX2.out.2.step hk3
  have S3 := Lib.hid (ownB_fresh (lo := w.heap.size) O3.out hm1 (by have := hb2.size; omega))
  have S4 := Lib.hid ((S2.out.below hk3).wideB (Nat.le_refl _) hk3.size)
  have k0 : w3.cell? ⟨w.heap.size, 0, none⟩ = some (.slice A1 n c1) := V1.cell 0 rfl
  have k1 : w3.cell? ⟨w.heap.size, 1, none⟩ = some (.slice C m d) := V1.cell 1 rfl
  have k2 : w3.cell? ⟨w.heap.size, 2, none⟩ = some (.int .i64 st) := V1.cell 2 rfl
  have k1z := V1.frozen 1
  have e0 : w3.cell? ⟨w.heap.size + 1, 0, none⟩ = some (.slice none 0 0) := V2.cell 0 rfl
  have e1 : w3.cell? ⟨w.heap.size + 1, 1, none⟩ = some (.slice none 0 0) := V2.cell 1 rfl
  have e2 : w3.cell? ⟨w.heap.size + 1, 2, none⟩ = some (.int .i64 0) := V2.cell 2 rfl
  have e0z := V2.frozen 0
  have e1z := V2.frozen 1
  have e2z := V2.frozen 2
  have hb4 := bt hb2 hk3
  have HV := Lib.hid (And.intro V1 V2)
  clear g0 g0z g1 HX2 hb2 hb3 hk3 O3 V1 V2 S2 hbb HSb HCb HW2
  go_wp2
  refine bodyPost_ret (v := .agg #[.slice A1 n c1, .slice A3 m c3, .int .i64 st]) (by simp [results, Try.results65, go_sem, e0, e1, e2]) rfl ?_
  have v1 := HV.out.1
  have v2 := HV.out.2.far (p := ⟨w.heap.size, 1, none⟩) (by show w.heap.size + 1 ≠ w.heap.size; omega) (.slice A3 m c3)
  refine ⟨_, _, _, _, _, _, rfl, Lib.hid HL.out.1, Lib.hid HL.out.2, Lib.hid ?_, Lib.hid ?_, KC, ?_⟩
  · have q := S4.out.farB v1 (by decide) 1 (.slice A3 m c3)
    exact (((q.farB v2 (by decide) 0 _).farB (v2.set 0 _) (by decide) 1 _).farB ((v2.set 0 _).set 1 _) (by decide) 2 _).wideB (Nat.le_refl _) (by simp [World.setCell])
  · have q := S3.out.far v1 (by decide) 1 (.slice A3 m c3)
    exact (((q.far v2 (by decide) 0 _).far (v2.set 0 _) (by decide) 1 _).far ((v2.set 0 _).set 1 _) (by decide) 2 _).wide (Nat.le_refl _) (by simp [World.setCell])
  · exact (((hb4.setCell (Nat.le_refl _) _).setCell (by show w.heap.size ≤ w.heap.size + 1; omega) _).setCell (by show w.heap.size ≤ w.heap.size + 1; omega) _).setCell (by show w.heap.size ≤ w.heap.size + 1; omega) _

set_option maxRecDepth 100000 in
theorem l03Own (A C : Option Addr) (n c m d : Nat) (st : Int) (zs : List Int) (gs : List Bool) (w : World) (hl : zs.length = n) (hm : gs.length = m) (hn : n = 256) (hmm : m = 16) (h : IntL w A zs) (g : BoolL w C gs) :
    Calls Try.prog 65 #[.agg #[.slice A n c, .slice C m d, .int .i64 st]] w (GivesFlash zs gs st w) :=
  (l03OwnC A C n c m d st zs gs w hl hm hn hmm h g).mono fun _ _ h => h.plain

theorem at256 {zs : List Int} (h : ∀ z ∈ zs, 0 ≤ z ∧ z ≤ 255) (k : Nat) (hk : k < zs.length) : ∃ z : Nat, zs.getD k 0 = z ∧ z < 256 := by
  have := h (zs.getD k 0) (by rw [List.getD_eq_getElem?_getD, List.getElem?_eq_getElem hk]; exact List.getElem_mem _)
  exact ⟨(zs.getD k 0).toNat, by omega, by omega⟩

/-- A box that holds a flash, after the three stores of another. -/
theorem Box.flash3 {w : World} {b : Nat} {cs : Array Value} (X : Box w b 43 cs) (hs : cs.size = 3) (u0 u1 u2 : Value) :
    Box (((w.setCell ⟨b, 0, none⟩ u0).setCell ⟨b, 1, none⟩ u1).setCell ⟨b, 2, none⟩ u2) b 43 #[u0, u1, u2] := by
  have := ((X.set 0 u0).set 1 u1).set 2 u2
  rw [show ((cs.setIfInBounds 0 u0).setIfInBounds 1 u1).setIfInBounds 2 u2 = #[u0, u1, u2] from by
    match cs, hs with
    | ⟨[a, b, c]⟩, _ => rfl] at this
  exact this
theorem Box.far3 {w : World} {b b' : Nat} {t : TypeId} {cs : Array Value} (X : Box w b t cs) (hb : b ≠ b') (u0 u1 u2 : Value) :
    Box (((w.setCell ⟨b', 0, none⟩ u0).setCell ⟨b', 1, none⟩ u1).setCell ⟨b', 2, none⟩ u2) b t cs := ((X.far (p := ⟨b', 0, none⟩) hb u0).far (p := ⟨b', 1, none⟩) hb u1).far (p := ⟨b', 2, none⟩) hb u2
theorem OwnI.far3 {w : World} {lo hi : Nat} {A : Option Addr} {zs : List Int} (h : OwnI w lo hi A zs) {b : Nat} {cs : Array Value} (X : Box w b 43 cs) (u0 u1 u2 : Value) : OwnI (((w.setCell ⟨b, 0, none⟩ u0).setCell ⟨b, 1, none⟩ u1).setCell ⟨b, 2, none⟩ u2) lo hi A zs :=
  ((h.farB X (by decide) 0 u0).farB (X.set 0 u0) (by decide) 1 u1).farB ((X.set 0 u0).set 1 u1) (by decide) 2 u2
theorem OwnB.far3 {w : World} {lo hi : Nat} {A : Option Addr} {gs : List Bool} (h : OwnB w lo hi A gs) {b : Nat} {cs : Array Value} (X : Box w b 43 cs) (u0 u1 u2 : Value) : OwnB (((w.setCell ⟨b, 0, none⟩ u0).setCell ⟨b, 1, none⟩ u1).setCell ⟨b, 2, none⟩ u2) lo hi A gs :=
  ((h.far X (by decide) 0 u0).far (X.set 0 u0) (by decide) 1 u1).far ((X.set 0 u0).set 1 u1) (by decide) 2 u2
theorem below3 {w0 w : World} {b : Nat} (h : Below w0.heap.size w0 w) (hb : w0.heap.size ≤ b) (u0 u1 u2 : Value) : Below w0.heap.size w0 (((w.setCell ⟨b, 0, none⟩ u0).setCell ⟨b, 1, none⟩ u1).setCell ⟨b, 2, none⟩ u2) :=
  ((h.setCell (p := ⟨b, 0, none⟩) hb u0).setCell (p := ⟨b, 1, none⟩) hb u1).setCell (p := ⟨b, 2, none⟩) hb u2
theorem size3 (w : World) (b : Nat) (u0 u1 u2 : Value) : (((w.setCell ⟨b, 0, none⟩ u0).setCell ⟨b, 1, none⟩ u1).setCell ⟨b, 2, none⟩ u2).heap.size = w.heap.size := by simp [World.setCell]

set_option maxRecDepth 100000 in
set_option maxHeartbeats 4000000 in
theorem l03Program (A C : Option Addr) (n c m d k v : Nat) (st : Int) (zs : List Int) (gs : List Bool) (w : World) (hl : zs.length = n) (hm : gs.length = m) (hn : n = 256) (hmm : m = 16) (hk : k < 256) (hv : v < 256) (hz : ∀ z ∈ zs, 0 ≤ z ∧ z ≤ 255) (h : IntL w A zs) (g : BoolL w C gs) :
    Calls Try.prog 86 #[.agg #[.slice A n c, .slice C m d, .int .i64 st], .int .i64 k, .int .i64 v] w (GivesFlash (progL zs gs k v) gs st w) := by
  obtain ⟨W0, hW0⟩ : ∃ W0, W0 = ((w.alloc (.cells #[.slice A n c, .slice C m d, .int .i64 st] 43)).alloc (.cells #[.slice none 0 0, .slice none 0 0, .int .i64 0] 43)) := ⟨_, rfl⟩
  have hb0 : Below w.heap.size w W0 := by rw [hW0]; exact bt (alloc_below _ _) (alloc_below _ _)
  have X0 : Box W0 w.heap.size 43 #[.slice A n c, .slice C m d, .int .i64 st] := by rw [hW0]; exact (Box.new _ _ _).alloc _
  have Y0 : Box W0 (w.heap.size + 1) 43 #[.slice none 0 0, .slice none 0 0, .int .i64 0] := by rw [hW0]; simpa using Box.new (w.alloc (.cells #[.slice A n c, .slice C m d, .int .i64 st] 43)) 43 #[.slice none 0 0, .slice none 0 0, .int .i64 0]
  have HO := Lib.hid (l03Own A C n c m d st zs gs W0 hl hm hn hmm (h.below hb0) (g.below hb0))
  have HLen : Hid ((progL zs gs k v).length = n ∧ zs.length = 256 ∧ gs.length = 16) := Lib.hid ⟨by rw [progL_len]; exact hl, by omega, by omega⟩
  obtain ⟨z, hzk, hz2⟩ := at256 hz k (by omega)
  obtain ⟨x, hx⟩ : ∃ x, bits .and .i64 (z : Int) (v : Int) = x := ⟨_, rfl⟩
  have HP : Hid (∀ q, gs.getD (k / 16) false = q → progL zs gs k v = if q then zs else zs.set k x) := Lib.hid (by
    intro q hq
    unfold progL
    rw [hq, hzk, ← hx, and_i64 z v hz2 hv]
    rfl)
  have HZ := Lib.hid hzk
  have HX := Lib.hid (And.intro X0 Y0)
  have HW0 := Lib.hid hW0
  generalize progL zs gs k v = r at HP HLen
  have HN := Lib.hid (And.intro hn hmm)
  clear hl hm h g hW0 X0 Y0 hz hzk hn hmm
  have hkd : ((k / 16 : Nat) : Int) < 16 := by omega
  have hki : (k : Int) < 256 := by omega
  go_enter Try.func86, Try.ntmps86
  go_wp2_with fail
  rw [← HW0.out]
  refine HO.out.mono ?_
  rintro e w1 ⟨A1, n1, c1, C1, m1, d1, rfl, L1, M1, S1, R1, hb1⟩
  obtain rfl : n1 = 256 := by have := L1.out; have := HLen.out; omega
  obtain rfl : m1 = 16 := by have := M1.out; have := HLen.out; omega
  have X1 := HX.out.1.step hb1
  have Y1 := HX.out.2.step hb1
  have a0 := X1.cell 0 rfl
  have a1 := X1.cell 1 rfl
  have a2 := X1.cell 2 rfl
  have a0z := X1.frozen 0
  have a1z := X1.frozen 1
  have a2z := X1.frozen 2
  obtain ⟨w2, hw2⟩ : ∃ w2, w2 = ((w1.setCell ⟨w.heap.size, 0, none⟩ (.slice A1 256 c1)).setCell ⟨w.heap.size, 1, none⟩ (.slice C1 16 d1)).setCell ⟨w.heap.size, 2, none⟩ (.int .i64 st) := ⟨_, rfl⟩
  have X2 : Box w2 w.heap.size 43 #[.slice A1 256 c1, .slice C1 16 d1, .int .i64 st] := by rw [hw2]; exact X1.flash3 rfl _ _ _
  have Y2 : Box w2 (w.heap.size + 1) 43 #[.slice none 0 0, .slice none 0 0, .int .i64 0] := by rw [hw2]; exact Y1.far3 (by omega) _ _ _
  have S2 : Hid (OwnI w2 w.heap.size w2.heap.size A1 zs) := Lib.hid (by rw [hw2]; exact (S1.out.far3 X1 _ _ _).wideB hb0.size (by rw [size3]; exact Nat.le_refl _))
  have R2 : Hid (OwnB w2 w.heap.size w2.heap.size C1 gs) := Lib.hid (by rw [hw2]; exact (R1.out.far3 X1 _ _ _).wide hb0.size (by rw [size3]; exact Nat.le_refl _))
  have hb2 : Below w.heap.size w w2 := by rw [hw2]; exact below3 (bt hb0 hb1) (Nat.le_refl _) _ _ _
  obtain ⟨bg, mg, fg, rfl, hcg, -, -, -, -, -⟩ := R2.out.put (k / 16) (by have := HLen.out; omega)
  obtain ⟨ba, ma, fa, rfl, hca, hfa, hlo, hhi, hra, hput⟩ := S2.out.put k (by have := HLen.out; omega)
  rw [HZ.out] at hca
  have HP2 := Lib.hid (HP.out _ rfl)
  generalize gs.getD (k / 16) false = q at hcg HP2
  have HPut := Lib.hid (And.intro hlo hput)
  have x0 := X2.cell 0 rfl
  have x1 := X2.cell 1 rfl
  have x2 := X2.cell 2 rfl
  have y0 := Y2.cell 0 rfl
  have y1 := Y2.cell 1 rfl
  have y2 := Y2.cell 2 rfl
  have y0z := Y2.frozen 0
  have y1z := Y2.frozen 1
  have y2z := Y2.frozen 2
  have X3 := X2.other hra (by decide) k (.int .i64 x)
  have Y3 := Y2.other hra (by decide) k (.int .i64 x)
  have R3 := Lib.hid (R2.out.other hra (by decide) k (.int .i64 x))
  have u0 := X3.cell 0 rfl
  have u1 := X3.cell 1 rfl
  have u2 := X3.cell 2 rfl
  have t0 := Y3.cell 0 rfl
  have t1 := Y3.cell 1 rfl
  have t2 := Y3.cell 2 rfl
  have t0z := Y3.frozen 0
  have t1z := Y3.frozen 1
  have t2z := Y3.frozen 2
  have HYs := Lib.hid (And.intro Y2 Y3)
  have HB2 := Lib.hid (And.intro hb2 hw2)
  rw [hw2] at hcg hca hfa x0 x1 x2 y0 y1 y2 y0z y1z y2z u0 u1 u2 t0 t1 t2 t0z t1z t2z
  clear X1 Y1 S1 R1 hb0 hb1 hw2 X2 Y2 hb2 hlo hhi hra hput X3 Y3 HP HO HX HW0 fg fa
  cases q
  · have HE : Hid (r = zs.set k x) := Lib.hid (by rw [HP2.out]; rfl)
    go_wp2
    refine bodyPost_ret (v := .agg #[.slice (some ⟨ba, 0, none⟩) 256 c1, .slice (some ⟨bg, 0, none⟩) 16 d1, .int .i64 st]) (by simp [results, Try.results86, go_sem, t0, t1, t2]) rfl ?_
    rw [← HB2.out.2, HE.out]
    refine ⟨_, _, _, _, _, _, rfl, Lib.hid (by rw [← HE.out, HLen.out.1]; exact HN.out.1), Lib.hid HLen.out.2.2, Lib.hid ?_, Lib.hid ?_, ?_⟩
    · exact ((HPut.out.2 x).far3 HYs.out.2 _ _ _).wideB (Nat.le_refl _) (by rw [size3]; simp [World.setCell])
    · exact (R3.out.far3 HYs.out.2 _ _ _).wide (Nat.le_refl _) (by rw [size3]; simp [World.setCell])
    · exact below3 (HB2.out.1.setCell (p := ⟨ba, k, none⟩) HPut.out.1 _) (by omega) _ _ _
  · have HE : Hid (r = zs) := Lib.hid (by rw [HP2.out]; rfl)
    go_wp2
    refine bodyPost_ret (v := .agg #[.slice (some ⟨ba, 0, none⟩) 256 c1, .slice (some ⟨bg, 0, none⟩) 16 d1, .int .i64 st]) (by simp [results, Try.results86, go_sem, y0, y1, y2]) rfl ?_
    rw [← HB2.out.2, HE.out]
    refine ⟨_, _, _, _, _, _, rfl, Lib.hid HLen.out.2.1, Lib.hid HLen.out.2.2, Lib.hid ?_, Lib.hid ?_, ?_⟩
    · exact (S2.out.far3 HYs.out.1 _ _ _).wideB (Nat.le_refl _) (by rw [size3]; exact Nat.le_refl _)
    · exact (R2.out.far3 HYs.out.1 _ _ _).wide (Nat.le_refl _) (by rw [size3]; exact Nat.le_refl _)
    · exact below3 HB2.out.1 (by omega) _ _ _
end Go.Proofs.Ytieljgoodmoacaa
