/- What the functions that hand back a flash and a code answer; the model's ProgramCell, EraseBlock, GuardBlock. -/
import Derived.Test.YtapopagphoiemaaFlashSpec2
import Derived.Deep.RegionHeld3
namespace Go.Proofs.Ytapopagphoiemaa
open Go.RowKit

def gate (cd : Int) (zs : List Int) (gs : List Bool) (st : Int) : List Int × List Bool × Int × Int := if cd = 0 then (zs, gs, st, 0) else ([], [], 0, cd)
def progOf (zs : List Int) (gs : List Bool) (st a v : Int) := gate (codeIf (okFlash zs gs st) (byB a && byB v)) (progL zs gs a.toNat v.toNat) gs st
def eraseOf (zs : List Int) (gs : List Bool) (st a : Int) := gate (codeIf (okFlash zs gs st) (blkB a)) (eraseL zs gs a.toNat) gs st
def guardOf (zs : List Int) (gs : List Bool) (st a : Int) := gate (codeIf (okFlash zs gs st) (blkB a)) zs (gs.set a.toNat true) st
theorem codeIf_ok {f ok : Bool} (h : codeIf f ok = 0) : f = true ∧ ok = true := by unfold codeIf at h; cases f <;> cases ok <;> simp_all
theorem gate_bound {f ok : Bool} {zs : List Int} {gs : List Bool} {st : Int} (h : f = true → zs.length ≤ 1048576 ∧ gs.length ≤ 1048576) : (gate (codeIf f ok) zs gs st).1.length ≤ 1048576 ∧ (gate (codeIf f ok) zs gs st).2.1.length ≤ 1048576 := by
  unfold gate
  by_cases q : codeIf f ok = 0
  · rw [if_pos q]; exact h (codeIf_ok q).1
  · rw [if_neg q]; simp
theorem progOf_bound (zs : List Int) (gs : List Bool) (st a v : Int) : (progOf zs gs st a v).1.length ≤ 1048576 ∧ (progOf zs gs st a v).2.1.length ≤ 1048576 := gate_bound (fun h => by have := okFlash_len h; rw [progL_len]; omega)
theorem eraseOf_bound (zs : List Int) (gs : List Bool) (st a : Int) : (eraseOf zs gs st a).1.length ≤ 1048576 ∧ (eraseOf zs gs st a).2.1.length ≤ 1048576 := gate_bound (fun h => by have := okFlash_len h; rw [eraseL_len]; omega)
theorem guardOf_bound (zs : List Int) (gs : List Bool) (st a : Int) : (guardOf zs gs st a).1.length ≤ 1048576 ∧ (guardOf zs gs st a).2.1.length ≤ 1048576 := gate_bound (fun h => by have := okFlash_len h; rw [List.length_set]; omega)
theorem progL_range {zs : List Int} {gs : List Bool} {k v : Nat} (h : ∀ z ∈ zs, 0 ≤ z ∧ z ≤ 255) (hv : v < 256) : ∀ z ∈ progL zs gs k v, 0 ≤ z ∧ z ≤ 255 := by
  intro z hz
  unfold progL at hz
  split at hz
  · exact h z hz
  · rcases List.mem_or_eq_of_mem_set hz with q | rfl
    · exact h z q
    · have := and_lt v (zs.getD k 0).toNat hv
      rw [Nat.and_comm] at this
      omega
theorem fillR_range {zs : List Int} (h : ∀ z ∈ zs, 0 ≤ z ∧ z ≤ 255) (a b : Nat) : ∀ z ∈ fillR zs a b, 0 ≤ z ∧ z ≤ 255 := by
  intro z hz
  unfold fillR at hz
  obtain ⟨i, hi, rfl⟩ := List.mem_map.1 hz
  have hi' : i < zs.length := by simpa using hi
  split
  · omega
  · exact h _ (by rw [List.getD_eq_getElem?_getD, List.getElem?_eq_getElem hi']; exact List.getElem_mem _)
theorem eraseL_range {zs : List Int} {gs : List Bool} {b : Nat} (h : ∀ z ∈ zs, 0 ≤ z ∧ z ≤ 255) : ∀ z ∈ eraseL zs gs b, 0 ≤ z ∧ z ≤ 255 := by
  intro z hz
  unfold eraseL at hz
  split at hz
  · exact h z hz
  · exact fillR_range h _ _ z hz
def GivesOf (r : List Int × List Bool × Int × Int) (w : World) (e : Ending) (w' : World) : Prop := GivesFlashCode r.1 r.2.1 r.2.2.1 r.2.2.2 w e w'

set_option maxRecDepth 100000 in
set_option maxHeartbeats 4000000 in
theorem specProgramCell (A C : Option Addr) (n c m d : Nat) (st : Int) (zs : List Int) (gs : List Bool) (a v : Int) (w : World) (hl : zs.length = n) (hm : gs.length = m) (hn : n ≤ maxLen) (hmm : m ≤ maxLen) (h : IntL w A zs) (g : BoolL w C gs) :
    Calls Try.prog 31 #[.agg #[.slice A n c, .slice C m d, .int .i64 st], .int .i64 a, .int .i64 v] w (GivesFlashCode (progOf zs gs st a v).1 (progOf zs gs st a v).2.1 (progOf zs gs st a v).2.2.1 (progOf zs gs st a v).2.2.2 w) := by
  obtain ⟨W0, hW0⟩ : ∃ W0, W0 = ((w.alloc (.cells #[.slice A n c, .slice C m d, .int .i64 st] 26)).alloc (.cells #[.slice none 0 0, .slice none 0 0, .int .i64 0] 26)) := ⟨_, rfl⟩
  have hb0 : Below w.heap.size w W0 := by rw [hW0]; exact bt (alloc_below _ _) (alloc_below _ _)
  have X0 : Box W0 w.heap.size 26 #[.slice A n c, .slice C m d, .int .i64 st] := by rw [hW0]; exact (Box.new _ _ _).alloc _
  have Y0 : Box W0 (w.heap.size + 1) 26 #[.slice none 0 0, .slice none 0 0, .int .i64 0] := by rw [hW0]; simpa using Box.new (w.alloc (.cells #[.slice A n c, .slice C m d, .int .i64 st] 26)) 26 #[.slice none 0 0, .slice none 0 0, .int .i64 0]
  have HC := Lib.hid (fun q W (hb : Below w.heap.size w W) => l03Ask A C n c m d st q zs gs W hl hm hn hmm (h.below hb))
  have H := Lib.hid (And.intro hl (And.intro hm (And.intro h g)))
  have HR : Hid (progOf zs gs st a v = gate (codeIf (okFlash zs gs st) (byB a && byB v)) (progL zs gs a.toNat v.toNat) gs st) := Lib.hid rfl
  generalize progOf zs gs st a v = r at HR
  clear hl hm hn hmm h g
  have f0 := X0.cell 0 rfl
  have f1 := X0.cell 1 rfl
  have f2 := X0.cell 2 rfl
  have HK := Lib.hid (fun W' (hb : Below W0.heap.size W0 W') => And.intro ((hb.cell (cell_lt f0)).trans f0) (And.intro ((hb.cell (cell_lt f1)).trans f1) ((hb.cell (cell_lt f2)).trans f2)))
  have HY := Lib.hid Y0
  have HW := Lib.hid hW0
  clear hW0 X0 Y0
  have h6 : Below W0.heap.size W0 W0.drew := (Below.refl _ _).drew
  generalize hcd : codeIf (okFlash zs gs st) (byB a && byB v) = cd at HR
  have hcd2 : ∀ W, Below w.heap.size w W → ∀ q, q = (byB a && byB v) → Calls Try.prog 46 #[.agg #[.slice A n c, .slice C m d, .int .i64 st], .bool q] W fun e w' => e = .returned (.int .i64 cd) ∧ Below W.heap.size W w' := fun W hb q hq => by have := HC.out q W hb; rw [hq, hcd] at this; rw [hq]; exact this
  have HC2 := Lib.hid hcd2
  have HOk : Hid (cd = 0 → okFlash zs gs st = true ∧ (byB a && byB v) = true) := Lib.hid (fun e => codeIf_ok (hcd.trans e))
  clear hcd hcd2 HC
  have hrest : ∀ w2, Below W0.heap.size W0 w2 → True := fun _ _ => trivial
  clear hrest
  by_cases ha : byB a = true
  · have HQ : Hid (byB v = (byB a && byB v)) := Lib.hid (by rw [ha, Bool.true_and])
    go_enter Try.func31, Try.ntmps31
    go_wp2
    rw [← HW.out]
    go_region_held3 (fun W => W.cell? ⟨w.heap.size, 0, none⟩ = some (.slice A n c) ∧ W.cell? ⟨w.heap.size, 1, none⟩ = some (.slice C m d) ∧ W.cell? ⟨w.heap.size, 2, none⟩ = some (.int .i64 st))
      (first | exact HK.out _ h6 | exact HK.out _ (bt h6 hb2))
      (first | (go_at_call 47; refine (l03At _ _).mono ?_; rintro e w' ⟨rfl, rfl⟩; rw [ha]) | (go_at_call 48; refine (l01In255 _ _).mono ?_; rintro e w' ⟨rfl, rfl⟩) | (go_at_call 46; refine (HC2.out _ hb0.drew _ HQ.out).mono ?_; rintro e w2 ⟨rfl, hb2⟩))
    have hk2 := bt h6 hb2
    have hb := bt hb0 hk2
    obtain ⟨e0, e1, e2⟩ := HK.out _ hk2
    have Y2 := HY.out.step hk2
    have y0 := Y2.cell 0 rfl
    have y1 := Y2.cell 1 rfl
    have y2 := Y2.cell 2 rfl
    have y0z := Y2.frozen 0
    have y1z := Y2.frozen 1
    have y2z := Y2.frozen 2
    have HY2 := Lib.hid Y2
    clear f0 f1 f2 hb0 h6 HK HY HW HC2 hb2 hk2 Y2 HQ
    by_cases hz : cd = 0
    · subst hz
      obtain ⟨hok, hav⟩ := HOk.out rfl
      have q := okFlash_len hok
      obtain rfl : n = 256 := by have := H.out.1; omega
      obtain rfl : m = 16 := by have := H.out.2.1; omega
      rw [ha, Bool.true_and] at hav
      obtain ⟨k, rfl⟩ : ∃ k : Nat, a = k := ⟨a.toNat, by have := byB_range ha; omega⟩
      obtain ⟨u, rfl⟩ : ∃ u : Nat, v = u := ⟨v.toNat, by have := byB_range hav; omega⟩
      have HP := Lib.hid (l03Program A C 256 c 16 d k u st zs gs w2 H.out.1 H.out.2.1 rfl rfl (by have := byB_range ha; omega) (by have := byB_range hav; omega) q.2.2.2 (H.out.2.2.1.below hb) (H.out.2.2.2.below hb))
      have HR2 : Hid (r = (progL zs gs k u, gs, st, 0)) := Lib.hid (by rw [HR.out]; rfl)
      generalize progL zs gs k u = zr at HP HR2
      clear q hok ha hav H HR HOk
      go_wp2_with fail
      refine HP.out.mono ?_
      rintro e w3 ⟨A3, n3, c3, C3, m3, d3, rfl, L3, M3, S3, R3, hb3⟩
      have Y3 := HY2.out.step hb3
      have s0 := Y3.cell 0 rfl
      have s1 := Y3.cell 1 rfl
      have s2 := Y3.cell 2 rfl
      have s0z := Y3.frozen 0
      have s1z := Y3.frozen 1
      have s2z := Y3.frozen 2
      have HY3 := Lib.hid Y3
      clear Y3 e0 e1 e2 y0 y1 y2 y0z y1z y2z
      go_wp2
      refine bodyPost_ret (v := .tuple #[.agg #[.slice A3 n3 c3, .slice C3 m3 d3, .int .i64 st], .int .i64 0]) (by simp [results, Try.results31, go_sem, s0, s1, s2]) rfl ?_
      rw [HR2.out]
      exact ⟨_, _, _, _, _, _, rfl, L3, M3, Lib.hid ((S3.out.far3 HY3.out _ _ _).wideB hb.size (by rw [size3]; exact Nat.le_refl _)), Lib.hid ((R3.out.far3 HY3.out _ _ _).wide hb.size (by rw [size3]; exact Nat.le_refl _)), below3 (bt hb hb3) (by omega) _ _ _⟩
    · have hcb : (cd != 0) = true := by simp [hz]
      have HR2 : Hid (r = ([], [], 0, cd)) := Lib.hid (by rw [HR.out]; unfold gate; rw [if_neg hz])
      clear hz HR HOk H
      go_wp2
      refine bodyPost_ret (v := .tuple #[.agg #[.slice none 0 0, .slice none 0 0, .int .i64 0], .int .i64 cd]) (by simp [results, Try.results31, go_sem, y0, y1, y2]) rfl ?_
      rw [HR2.out]
      exact ⟨_, _, _, _, _, _, rfl, Lib.hid rfl, Lib.hid rfl, Lib.hid (.inl rfl), Lib.hid (.inl rfl), below3 hb (by omega) _ _ _⟩
  · have ha' : byB a = false := by simpa using ha
    have HQ : Hid (false = (byB a && byB v)) := Lib.hid (by rw [ha', Bool.false_and])
    have hz : cd ≠ 0 := fun e => by have := (HOk.out e).2; rw [ha', Bool.false_and] at this; cases this
    have hcb : (cd != 0) = true := by simp [hz]
    have HR2 : Hid (r = ([], [], 0, cd)) := Lib.hid (by rw [HR.out]; unfold gate; rw [if_neg hz])
    clear ha hz HR HOk H
    go_enter Try.func31, Try.ntmps31
    go_wp2
    rw [← HW.out]
    first
    | (go_region_with
        (first | (go_at_call 47; refine (l03At _ _).mono ?_; rintro e w' ⟨rfl, rfl⟩; rw [ha']) | (go_at_call 46; refine (HC2.out _ hb0.drew _ HQ.out).mono ?_; rintro e w2 ⟨rfl, hb2⟩)))
    | fail
    all_goals (
      have hk2 := bt h6 hb2
      have hb := bt hb0 hk2
      have Y2 := HY.out.step hk2
      have y0 := Y2.cell 0 rfl
      have y1 := Y2.cell 1 rfl
      have y2 := Y2.cell 2 rfl
      have y0z := Y2.frozen 0
      have y1z := Y2.frozen 1
      have y2z := Y2.frozen 2
      clear f0 f1 f2 hb0 h6 HK HY HW HC2 hb2 hk2 Y2 HQ
      go_wp2
      refine bodyPost_ret (v := .tuple #[.agg #[.slice none 0 0, .slice none 0 0, .int .i64 0], .int .i64 cd]) (by simp [results, Try.results31, go_sem, y0, y1, y2]) rfl ?_
      rw [HR2.out]
      exact ⟨_, _, _, _, _, _, rfl, Lib.hid rfl, Lib.hid rfl, Lib.hid (.inl rfl), Lib.hid (.inl rfl), below3 hb (by omega) _ _ _⟩)

set_option maxRecDepth 100000 in
set_option maxHeartbeats 4000000 in
theorem specEraseBlock (A C : Option Addr) (n c m d : Nat) (st : Int) (zs : List Int) (gs : List Bool) (a : Int) (w : World) (hl : zs.length = n) (hm : gs.length = m) (hn : n ≤ maxLen) (hmm : m ≤ maxLen) (h : IntL w A zs) (g : BoolL w C gs) :
    Calls Try.prog 33 #[.agg #[.slice A n c, .slice C m d, .int .i64 st], .int .i64 a] w (GivesFlashCode (eraseOf zs gs st a).1 (eraseOf zs gs st a).2.1 (eraseOf zs gs st a).2.2.1 (eraseOf zs gs st a).2.2.2 w) := by
  obtain ⟨W0, hW0⟩ : ∃ W0, W0 = ((w.alloc (.cells #[.slice A n c, .slice C m d, .int .i64 st] 26)).alloc (.cells #[.slice none 0 0, .slice none 0 0, .int .i64 0] 26)) := ⟨_, rfl⟩
  have hb0 : Below w.heap.size w W0 := by rw [hW0]; exact bt (alloc_below _ _) (alloc_below _ _)
  have X0 : Box W0 w.heap.size 26 #[.slice A n c, .slice C m d, .int .i64 st] := by rw [hW0]; exact (Box.new _ _ _).alloc _
  have Y0 : Box W0 (w.heap.size + 1) 26 #[.slice none 0 0, .slice none 0 0, .int .i64 0] := by rw [hW0]; simpa using Box.new (w.alloc (.cells #[.slice A n c, .slice C m d, .int .i64 st] 26)) 26 #[.slice none 0 0, .slice none 0 0, .int .i64 0]
  have HC := Lib.hid (fun W (hb : Below w.heap.size w W) => l03Ask A C n c m d st (blkB a) zs gs W hl hm hn hmm (h.below hb))
  have H := Lib.hid (And.intro hl (And.intro hm (And.intro h g)))
  have HR : Hid (eraseOf zs gs st a = gate (codeIf (okFlash zs gs st) (blkB a)) (eraseL zs gs a.toNat) gs st) := Lib.hid rfl
  generalize eraseOf zs gs st a = r at HR
  clear hl hm hn hmm h g
  have f0 := X0.cell 0 rfl
  have f1 := X0.cell 1 rfl
  have f2 := X0.cell 2 rfl
  have HK := Lib.hid (fun W' (hb : Below W0.heap.size W0 W') => And.intro ((hb.cell (cell_lt f0)).trans f0) (And.intro ((hb.cell (cell_lt f1)).trans f1) ((hb.cell (cell_lt f2)).trans f2)))
  have HY := Lib.hid Y0
  have HW := Lib.hid hW0
  clear hW0 X0 Y0
  have h6 : Below W0.heap.size W0 W0.drew := (Below.refl _ _).drew
  have HOk : Hid (codeIf (okFlash zs gs st) (blkB a) = 0 → okFlash zs gs st = true ∧ blkB a = true) := Lib.hid (fun e => codeIf_ok e)
  generalize codeIf (okFlash zs gs st) (blkB a) = cd at HR HC HOk
  go_enter Try.func33, Try.ntmps33
  go_wp2
  rw [← HW.out]
  go_region_held3 (fun W => W.cell? ⟨w.heap.size, 0, none⟩ = some (.slice A n c) ∧ W.cell? ⟨w.heap.size, 1, none⟩ = some (.slice C m d) ∧ W.cell? ⟨w.heap.size, 2, none⟩ = some (.int .i64 st))
    (first | exact HK.out _ h6 | exact HK.out _ (bt h6 hb2))
    (first | (go_at_call 48; refine (l01In15 _ _).mono ?_; rintro e w' ⟨rfl, rfl⟩) | (go_at_call 46; refine (HC.out _ hb0.drew).mono ?_; rintro e w2 ⟨rfl, hb2⟩))
  have hk2 := bt h6 hb2
  have hb := bt hb0 hk2
  obtain ⟨e0, e1, e2⟩ := HK.out _ hk2
  have Y2 := HY.out.step hk2
  have y0 := Y2.cell 0 rfl
  have y1 := Y2.cell 1 rfl
  have y2 := Y2.cell 2 rfl
  have y0z := Y2.frozen 0
  have y1z := Y2.frozen 1
  have y2z := Y2.frozen 2
  have HY2 := Lib.hid Y2
  clear f0 f1 f2 hb0 h6 HK HY HW HC hb2 hk2 Y2
  by_cases hz : cd = 0
  · subst hz
    obtain ⟨hok, ha⟩ := HOk.out rfl
    have q := okFlash_len hok
    obtain rfl : n = 256 := by have := H.out.1; omega
    obtain rfl : m = 16 := by have := H.out.2.1; omega
    obtain ⟨k, rfl⟩ : ∃ k : Nat, a = k := ⟨a.toNat, by have := blkB_range ha; omega⟩
    have HP := Lib.hid (l03Erase A C 256 c 16 d k st zs gs w2 H.out.1 H.out.2.1 rfl rfl (by have := blkB_range ha; omega) (H.out.2.2.1.below hb) (H.out.2.2.2.below hb))
    have HR2 : Hid (r = (eraseL zs gs k, gs, st, 0)) := Lib.hid (by rw [HR.out]; rfl)
    generalize eraseL zs gs k = zr at HP HR2
    clear q hok ha H HR HOk
    go_wp2_with fail
    refine HP.out.mono ?_
    rintro e w3 ⟨A3, n3, c3, C3, m3, d3, rfl, L3, M3, S3, R3, hb3⟩
    have Y3 := HY2.out.step hb3
    have s0 := Y3.cell 0 rfl
    have s1 := Y3.cell 1 rfl
    have s2 := Y3.cell 2 rfl
    have s0z := Y3.frozen 0
    have s1z := Y3.frozen 1
    have s2z := Y3.frozen 2
    have HY3 := Lib.hid Y3
    clear Y3 e0 e1 e2 y0 y1 y2 y0z y1z y2z
    go_wp2
    refine bodyPost_ret (v := .tuple #[.agg #[.slice A3 n3 c3, .slice C3 m3 d3, .int .i64 st], .int .i64 0]) (by simp [results, Try.results33, go_sem, s0, s1, s2]) rfl ?_
    rw [HR2.out]
    exact ⟨_, _, _, _, _, _, rfl, L3, M3, Lib.hid ((S3.out.far3 HY3.out _ _ _).wideB hb.size (by rw [size3]; exact Nat.le_refl _)), Lib.hid ((R3.out.far3 HY3.out _ _ _).wide hb.size (by rw [size3]; exact Nat.le_refl _)), below3 (bt hb hb3) (by omega) _ _ _⟩
  · have hcb : (cd != 0) = true := by simp [hz]
    have HR2 : Hid (r = ([], [], 0, cd)) := Lib.hid (by rw [HR.out]; unfold gate; rw [if_neg hz])
    clear hz HR HOk H
    go_wp2
    refine bodyPost_ret (v := .tuple #[.agg #[.slice none 0 0, .slice none 0 0, .int .i64 0], .int .i64 cd]) (by simp [results, Try.results33, go_sem, y0, y1, y2]) rfl ?_
    rw [HR2.out]
    exact ⟨_, _, _, _, _, _, rfl, Lib.hid rfl, Lib.hid rfl, Lib.hid (.inl rfl), Lib.hid (.inl rfl), below3 hb (by omega) _ _ _⟩

set_option maxRecDepth 100000 in
set_option maxHeartbeats 4000000 in
theorem specGuardBlock (A C : Option Addr) (n c m d : Nat) (st : Int) (zs : List Int) (gs : List Bool) (a : Int) (w : World) (hl : zs.length = n) (hm : gs.length = m) (hn : n ≤ maxLen) (hmm : m ≤ maxLen) (h : IntL w A zs) (g : BoolL w C gs) :
    Calls Try.prog 35 #[.agg #[.slice A n c, .slice C m d, .int .i64 st], .int .i64 a] w (GivesFlashCode (guardOf zs gs st a).1 (guardOf zs gs st a).2.1 (guardOf zs gs st a).2.2.1 (guardOf zs gs st a).2.2.2 w) := by
  obtain ⟨W0, hW0⟩ : ∃ W0, W0 = ((w.alloc (.cells #[.slice A n c, .slice C m d, .int .i64 st] 26)).alloc (.cells #[.slice none 0 0, .slice none 0 0, .int .i64 0] 26)) := ⟨_, rfl⟩
  have hb0 : Below w.heap.size w W0 := by rw [hW0]; exact bt (alloc_below _ _) (alloc_below _ _)
  have X0 : Box W0 w.heap.size 26 #[.slice A n c, .slice C m d, .int .i64 st] := by rw [hW0]; exact (Box.new _ _ _).alloc _
  have Y0 : Box W0 (w.heap.size + 1) 26 #[.slice none 0 0, .slice none 0 0, .int .i64 0] := by rw [hW0]; simpa using Box.new (w.alloc (.cells #[.slice A n c, .slice C m d, .int .i64 st] 26)) 26 #[.slice none 0 0, .slice none 0 0, .int .i64 0]
  have HC := Lib.hid (fun W (hb : Below w.heap.size w W) => l03Ask A C n c m d st (blkB a) zs gs W hl hm hn hmm (h.below hb))
  have H := Lib.hid (And.intro hl (And.intro hm (And.intro h g)))
  have HR : Hid (guardOf zs gs st a = gate (codeIf (okFlash zs gs st) (blkB a)) zs (gs.set a.toNat true) st) := Lib.hid rfl
  generalize guardOf zs gs st a = r at HR
  clear hl hm hn hmm h g
  have f0 := X0.cell 0 rfl
  have f1 := X0.cell 1 rfl
  have f2 := X0.cell 2 rfl
  have HK := Lib.hid (fun W' (hb : Below W0.heap.size W0 W') => And.intro ((hb.cell (cell_lt f0)).trans f0) (And.intro ((hb.cell (cell_lt f1)).trans f1) ((hb.cell (cell_lt f2)).trans f2)))
  have HY := Lib.hid Y0
  have HW := Lib.hid hW0
  clear hW0 X0 Y0
  have h6 : Below W0.heap.size W0 W0.drew := (Below.refl _ _).drew
  have HOk : Hid (codeIf (okFlash zs gs st) (blkB a) = 0 → okFlash zs gs st = true ∧ blkB a = true) := Lib.hid (fun e => codeIf_ok e)
  generalize codeIf (okFlash zs gs st) (blkB a) = cd at HR HC HOk
  go_enter Try.func35, Try.ntmps35
  go_wp2
  rw [← HW.out]
  go_region_held3 (fun W => W.cell? ⟨w.heap.size, 0, none⟩ = some (.slice A n c) ∧ W.cell? ⟨w.heap.size, 1, none⟩ = some (.slice C m d) ∧ W.cell? ⟨w.heap.size, 2, none⟩ = some (.int .i64 st))
    (first | exact HK.out _ h6 | exact HK.out _ (bt h6 hb2))
    (first | (go_at_call 48; refine (l01In15 _ _).mono ?_; rintro e w' ⟨rfl, rfl⟩) | (go_at_call 46; refine (HC.out _ hb0.drew).mono ?_; rintro e w2 ⟨rfl, hb2⟩))
  have hk2 := bt h6 hb2
  have hb := bt hb0 hk2
  obtain ⟨e0, e1, e2⟩ := HK.out _ hk2
  have Y2 := HY.out.step hk2
  have y0 := Y2.cell 0 rfl
  have y1 := Y2.cell 1 rfl
  have y2 := Y2.cell 2 rfl
  have y0z := Y2.frozen 0
  have y1z := Y2.frozen 1
  have y2z := Y2.frozen 2
  have HY2 := Lib.hid Y2
  clear f0 f1 f2 hb0 h6 HK HY HW HC hb2 hk2 Y2
  by_cases hz : cd = 0
  · subst hz
    obtain ⟨hok, ha⟩ := HOk.out rfl
    have q := okFlash_len hok
    obtain rfl : n = 256 := by have := H.out.1; omega
    obtain rfl : m = 16 := by have := H.out.2.1; omega
    obtain ⟨k, rfl⟩ : ∃ k : Nat, a = k := ⟨a.toNat, by have := blkB_range ha; omega⟩
    have HP := Lib.hid (l03Guard A C 256 c 16 d k st zs gs w2 H.out.1 H.out.2.1 rfl rfl (by have := blkB_range ha; omega) (H.out.2.2.1.below hb) (H.out.2.2.2.below hb))
    have HR2 : Hid (r = (zs, gs.set k true, st, 0)) := Lib.hid (by rw [HR.out]; rfl)
    generalize gs.set k true = zr at HP HR2
    clear q hok ha H HR HOk
    go_wp2_with fail
    refine HP.out.mono ?_
    rintro e w3 ⟨A3, n3, c3, C3, m3, d3, rfl, L3, M3, S3, R3, hb3⟩
    have Y3 := HY2.out.step hb3
    have s0 := Y3.cell 0 rfl
    have s1 := Y3.cell 1 rfl
    have s2 := Y3.cell 2 rfl
    have s0z := Y3.frozen 0
    have s1z := Y3.frozen 1
    have s2z := Y3.frozen 2
    have HY3 := Lib.hid Y3
    clear Y3 e0 e1 e2 y0 y1 y2 y0z y1z y2z
    go_wp2
    refine bodyPost_ret (v := .tuple #[.agg #[.slice A3 n3 c3, .slice C3 m3 d3, .int .i64 st], .int .i64 0]) (by simp [results, Try.results35, go_sem, s0, s1, s2]) rfl ?_
    rw [HR2.out]
    exact ⟨_, _, _, _, _, _, rfl, L3, M3, Lib.hid ((S3.out.far3 HY3.out _ _ _).wideB hb.size (by rw [size3]; exact Nat.le_refl _)), Lib.hid ((R3.out.far3 HY3.out _ _ _).wide hb.size (by rw [size3]; exact Nat.le_refl _)), below3 (bt hb hb3) (by omega) _ _ _⟩
  · have hcb : (cd != 0) = true := by simp [hz]
    have HR2 : Hid (r = ([], [], 0, cd)) := Lib.hid (by rw [HR.out]; unfold gate; rw [if_neg hz])
    clear hz HR HOk H
    go_wp2
    refine bodyPost_ret (v := .tuple #[.agg #[.slice none 0 0, .slice none 0 0, .int .i64 0], .int .i64 cd]) (by simp [results, Try.results35, go_sem, y0, y1, y2]) rfl ?_
    rw [HR2.out]
    exact ⟨_, _, _, _, _, _, rfl, Lib.hid rfl, Lib.hid rfl, Lib.hid (.inl rfl), Lib.hid (.inl rfl), below3 hb (by omega) _ _ _⟩
end Go.Proofs.Ytapopagphoiemaa
