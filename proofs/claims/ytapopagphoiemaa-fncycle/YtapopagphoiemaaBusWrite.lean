/- The model's l03Write, and BusWrite on both sides. -/
import Derived.Test.YtapopagphoiemaaFlashWrite3
import Derived.Test.YtapopagphoiemaaFlashOps
namespace Go.Proofs.Ytapopagphoiemaa
open Go.RowKit

theorem ReadsFlash.of_gives {zs : List Int} {gs : List Bool} {st : Int} {w : World} {e : Ending} {w' : World} (h : GivesFlash zs gs st w e w') : ReadsFlash zs gs st w e w' := by
  obtain ⟨A, n, c, C, m, d, e1, L, M, S, R, b⟩ := h
  exact ⟨A, n, c, C, m, d, e1, L, M, Lib.hid S.out.reads, Lib.hid R.out.reads, b⟩
theorem ReadsFlash.of_same {A C : Option Addr} {c d : Nat} {zs : List Int} {gs : List Bool} {st : Int} {w : World} {e : Ending} {w' : World} (h : FlashAt w A C zs gs) (q : e = .returned (.agg #[.slice A 256 c, .slice C 16 d, .int .i64 st]) ∧ Below w.heap.size w w') : ReadsFlash zs gs st w e w' :=
  ⟨A, 256, c, C, 16, d, q.1, Lib.hid h.1.1, Lib.hid h.1.2, Lib.hid (h.2.1.below q.2), Lib.hid (h.2.2.below q.2), q.2⟩
theorem tests (k v : Nat) : Tests k v ((k : Int) == 85) ((v : Int) == 170) ((k : Int) == 42) ((v : Int) == 85) := ⟨rfl, rfl, rfl, rfl⟩

/-- A bus cycle hands back a flash of its own, or the bytes and the protection that it was given, with another state. -/
def WritesFlash (A C : Option Addr) (c d : Nat) (zs : List Int) (gs : List Bool) (zs' : List Int) (gs' : List Bool) (st' : Int) (w : World) (e : Ending) (w' : World) : Prop :=
  GivesFlash zs' gs' st' w e w' ∨ (zs' = zs ∧ gs' = gs ∧ e = .returned (.agg #[.slice A 256 c, .slice C 16 d, .int .i64 st']) ∧ Below w.heap.size w w')

set_option maxRecDepth 100000 in
theorem l03Write0 (A C : Option Addr) (c d k v : Nat) (st : Int) (zs : List Int) (gs : List Bool) (w : World) (hk : k < 256) (hv : v < 256) (hs : 0 ≤ st ∧ st ≤ 8) (hz : ∀ z ∈ zs, 0 ≤ z ∧ z ≤ 255) (h : FlashAt w A C zs gs) :
    Calls Try.prog 50 #[.agg #[.slice A 256 c, .slice C 16 d, .int .i64 st], .int .i64 k, .int .i64 v] w (WritesFlash A C c d zs gs (cycZ zs gs st k v) (cycG gs st k) (nextS st k v) w) := by
  have h9 : st = 0 ∨ st = 1 ∨ st = 2 ∨ st = 3 ∨ st = 4 ∨ st = 5 ∨ st = 6 ∨ st = 7 ∨ st = 8 := by omega
  have plain := fun (st : Int) (s : Int) (hq : (st = 0 ∧ s = if ((k : Int) == 85) && ((v : Int) == 170) then 1 else 0) ∨ (st = 4 ∧ s = if ((k : Int) == 85) && ((v : Int) == 170) then 5 else 0) ∨ (st = 1 ∧ s = if ((k : Int) == 42) && ((v : Int) == 85) then 2 else 0) ∨ (st = 5 ∧ s = if ((k : Int) == 42) && ((v : Int) == 85) then 6 else 0)) => writePlain A C c d k v st s w _ _ _ _ (tests k v) hq
  rcases h9 with rfl | rfl | rfl | rfl | rfl | rfl | rfl | rfl | rfl
  · obtain ⟨e1, e2⟩ := cyc_plain zs gs 0 k v (by omega) (by omega) (by omega)
    rw [e1, e2, nextS_0]
    exact (plain 0 _ (.inl ⟨rfl, rfl⟩)).mono fun _ _ q => .inr ⟨rfl, rfl, q⟩
  · obtain ⟨e1, e2⟩ := cyc_plain zs gs 1 k v (by omega) (by omega) (by omega)
    rw [e1, e2, nextS_1]
    exact (plain 1 _ (.inr (.inr (.inl ⟨rfl, rfl⟩)))).mono fun _ _ q => .inr ⟨rfl, rfl, q⟩
  · obtain ⟨e1, e2⟩ := cyc_plain zs gs 2 k v (by omega) (by omega) (by omega)
    rw [e1, e2, nextS_2]
    exact (writeCmd A C c d k v _ w _ _ _ _ (tests k v) rfl).mono fun _ _ q => .inr ⟨rfl, rfl, q⟩
  · rw [nextS_3, show cycZ zs gs 3 k v = progL zs gs k v from by unfold cycZ; rw [if_pos rfl], show cycG gs 3 k = gs from by unfold cycG; rw [if_neg (by omega)]]
    exact (writeProgram A C c d k v zs gs w _ _ _ _ (tests k v) hk hv hz h).mono fun _ _ q => .inl q
  · obtain ⟨e1, e2⟩ := cyc_plain zs gs 4 k v (by omega) (by omega) (by omega)
    rw [e1, e2, nextS_4]
    exact (plain 4 _ (.inr (.inl ⟨rfl, rfl⟩))).mono fun _ _ q => .inr ⟨rfl, rfl, q⟩
  · obtain ⟨e1, e2⟩ := cyc_plain zs gs 5 k v (by omega) (by omega) (by omega)
    rw [e1, e2, nextS_5]
    exact (plain 5 _ (.inr (.inr (.inr ⟨rfl, rfl⟩)))).mono fun _ _ q => .inr ⟨rfl, rfl, q⟩
  · rw [nextS_6, show cycZ zs gs 6 k v = wipeZ zs gs k v from by unfold cycZ; rw [if_neg (by omega), if_pos rfl], show cycG gs 6 k = gs from by unfold cycG; rw [if_neg (by omega)]]
    by_cases h48 : v = 48
    · subst h48
      rw [show wipeZ zs gs k 48 = eraseL zs gs (k / 16) from by unfold wipeZ; rw [if_neg (by omega), if_pos rfl]]
      exact (writeErase A C c d k zs gs w _ _ _ _ (tests k 48) hk h).mono fun _ _ q => .inl q
    · by_cases h16 : v = 16
      · subst h16
        by_cases h85 : k = 85
        · subst h85
          rw [show wipeZ zs gs 85 16 = eraseN zs gs 16 from by unfold wipeZ; rw [if_pos rfl, if_pos rfl]]
          exact (writeAll A C c d zs gs w h).mono fun _ _ q => .inl q
        · rw [show wipeZ zs gs k 16 = zs from by unfold wipeZ; rw [if_pos rfl, if_neg h85]]
          exact (writeNone A C c d k 16 w _ _ _ _ (tests k 16) (by simp) (.inr ⟨by simp, by simp; omega⟩)).mono fun _ _ q => .inr ⟨rfl, rfl, q⟩
      · rw [show wipeZ zs gs k v = zs from by unfold wipeZ; rw [if_neg h16, if_neg h48]]
        exact (writeNone A C c d k v w _ _ _ _ (tests k v) (by simp; omega) (.inl (by simp; omega))).mono fun _ _ q => .inr ⟨rfl, rfl, q⟩
  · obtain ⟨e1, e2⟩ := cyc_plain zs gs 7 k v (by omega) (by omega) (by omega)
    rw [e1, e2, nextS_7]
    exact (writeAuto A C c d k v w _ _ _ _ _ (tests k v) rfl).mono fun _ _ q => .inr ⟨rfl, rfl, q⟩
  · rw [nextS_8, show cycZ zs gs 8 k v = zs from by unfold cycZ; rw [if_neg (by omega), if_neg (by omega)], show cycG gs 8 k = gs.set (k / 16) true from by unfold cycG; rw [if_pos rfl]]
    exact (writeGuard A C c d k v zs gs w _ _ _ _ (tests k v) hk h).mono fun _ _ q => .inl q

set_option maxRecDepth 100000 in
theorem l03Write (A C : Option Addr) (c d k v : Nat) (st : Int) (zs : List Int) (gs : List Bool) (w : World) (hk : k < 256) (hv : v < 256) (hs : 0 ≤ st ∧ st ≤ 8) (hz : ∀ z ∈ zs, 0 ≤ z ∧ z ≤ 255) (h : FlashAt w A C zs gs) :
    Calls Try.prog 50 #[.agg #[.slice A 256 c, .slice C 16 d, .int .i64 st], .int .i64 k, .int .i64 v] w (ReadsFlash (cycZ zs gs st k v) (cycG gs st k) (nextS st k v) w) := by
  refine (l03Write0 A C c d k v st zs gs w hk hv hs hz h).mono ?_
  rintro e w' (q | ⟨q1, q2, q3⟩)
  · exact .of_gives q
  · rw [q1, q2]; exact .of_same h q3

set_option maxRecDepth 100000 in
set_option maxHeartbeats 4000000 in
theorem specBusWrite (A C : Option Addr) (n c m d : Nat) (st : Int) (zs : List Int) (gs : List Bool) (a v : Int) (w : World) (hl : zs.length = n) (hm : gs.length = m) (hn : n ≤ maxLen) (hmm : m ≤ maxLen) (h : IntL w A zs) (g : BoolL w C gs) :
    Calls Try.prog 16 #[.agg #[.slice A n c, .slice C m d, .int .i64 st], .int .i64 a, .int .i64 v] w (GivesFlashCode (writeF zs gs st a v).1 (writeF zs gs st a v).2.1 (writeF zs gs st a v).2.2.1 (writeF zs gs st a v).2.2.2 w) := by
  obtain ⟨W0, hW0⟩ : ∃ W0, W0 = ((w.alloc (.cells #[.slice A n c, .slice C m d, .int .i64 st] 26)).alloc (.cells #[.slice none 0 0, .slice none 0 0, .int .i64 0] 26)) := ⟨_, rfl⟩
  have hb0 : Below w.heap.size w W0 := by rw [hW0]; exact bt (alloc_below _ _) (alloc_below _ _)
  have X0 : Box W0 w.heap.size 26 #[.slice A n c, .slice C m d, .int .i64 st] := by rw [hW0]; exact (Box.new _ _ _).alloc _
  have Y0 : Box W0 (w.heap.size + 1) 26 #[.slice none 0 0, .slice none 0 0, .int .i64 0] := by rw [hW0]; simpa using Box.new (w.alloc (.cells #[.slice A n c, .slice C m d, .int .i64 st] 26)) 26 #[.slice none 0 0, .slice none 0 0, .int .i64 0]
  have HC := Lib.hid (fun q W (hb : Below w.heap.size w W) => l03Ask A C n c m d st q zs gs W hl hm hn hmm (h.below hb))
  have H := Lib.hid (And.intro hl (And.intro hm (And.intro h g)))
  have HR : Hid (writeF zs gs st a v = gate (codeIf (okFlash zs gs st) (byB a && byB v)) (cycZ zs gs st a.toNat v.toNat) (cycG gs st a.toNat) (nextS st a v)) := Lib.hid rfl
  generalize writeF zs gs st a v = r at HR
  clear hl hm hn hmm h g
  have f0 := X0.cell 0 rfl
  have f1 := X0.cell 1 rfl
  have f2 := X0.cell 2 rfl
  have HK := Lib.hid (fun W' (hb : Below W0.heap.size W0 W') => And.intro ((hb.cell (cell_lt f0)).trans f0) (And.intro ((hb.cell (cell_lt f1)).trans f1) ((hb.cell (cell_lt f2)).trans f2)))
  have HY := Lib.hid Y0
  have HW := Lib.hid hW0
  clear hW0 X0 Y0
  have h6 : Below W0.heap.size W0 W0.drew := (Below.refl _ _).drew
  generalize hcd : codeIf (okFlash zs gs st) (byB a && byB v) = cd at HR
  have hcd2 : ∀ W, Below w.heap.size w W → ∀ q, q = (byB a && byB v) → Calls Try.prog 46 #[.agg #[.slice A n c, .slice C m d, .int .i64 st], .bool q] W fun e w' => e = .returned (.int .i64 cd) ∧ Below W.heap.size W w' := fun W hb q hq => by have := HC.out q W hb; rw [hq, hcd] at this; rw [hq]; exact this
  have HC2 := Lib.hid hcd2
  have HOk : Hid (cd = 0 → okFlash zs gs st = true ∧ (byB a && byB v) = true) := Lib.hid (fun e => codeIf_ok (hcd.trans e))
  clear hcd hcd2 HC
  have hrest : ∀ w2, Below W0.heap.size W0 w2 → True := fun _ _ => trivial
  clear hrest
  by_cases ha : byB a = true
  · have HQ : Hid (byB v = (byB a && byB v)) := Lib.hid (by rw [ha, Bool.true_and])
    go_enter Try.func16, Try.ntmps16
    go_wp2
    rw [← HW.out]
    go_region_held3 (fun W => W.cell? ⟨w.heap.size, 0, none⟩ = some (.slice A n c) ∧ W.cell? ⟨w.heap.size, 1, none⟩ = some (.slice C m d) ∧ W.cell? ⟨w.heap.size, 2, none⟩ = some (.int .i64 st))
      (first | exact HK.out _ h6 | exact HK.out _ (bt h6 hb2))
      (first | (go_at_call 47; refine (l03At _ _).mono ?_; rintro e w' ⟨rfl, rfl⟩; rw [ha]) | (go_at_call 48; refine (l01In255 _ _).mono ?_; rintro e w' ⟨rfl, rfl⟩) | (go_at_call 46; refine (HC2.out _ hb0.drew _ HQ.out).mono ?_; rintro e w2 ⟨rfl, hb2⟩))
    have hk2 := bt h6 hb2
    have hb := bt hb0 hk2
    obtain ⟨e0, e1, e2⟩ := HK.out _ hk2
    have Y2 := HY.out.step hk2
    have y0 := Y2.cell 0 rfl
    have y1 := Y2.cell 1 rfl
    have y2 := Y2.cell 2 rfl
    have y0z := Y2.frozen 0
    have y1z := Y2.frozen 1
    have y2z := Y2.frozen 2
    have HY2 := Lib.hid Y2
    clear f0 f1 f2 hb0 h6 HK HY HW HC2 hb2 hk2 Y2 HQ
    by_cases hz : cd = 0
    · subst hz
      obtain ⟨hok, hav⟩ := HOk.out rfl
      have q := okFlash_len hok
      obtain rfl : n = 256 := by have := H.out.1; omega
      obtain rfl : m = 16 := by have := H.out.2.1; omega
      rw [ha, Bool.true_and] at hav
      obtain ⟨k, rfl⟩ : ∃ k : Nat, a = k := ⟨a.toNat, by have := byB_range ha; omega⟩
      obtain ⟨u, rfl⟩ : ∃ u : Nat, v = u := ⟨v.toNat, by have := byB_range hav; omega⟩
      have hku : k < 256 ∧ u < 256 := by have := byB_range ha; have := byB_range hav; omega
      have HP := Lib.hid (l03Write A C c d k u st zs gs w2 hku.1 hku.2 q.2.2.1 q.2.2.2 ⟨⟨H.out.1, H.out.2.1⟩, H.out.2.2.1.below hb, H.out.2.2.2.below hb⟩)
      have HR2 : Hid (r = (cycZ zs gs st k u, cycG gs st k, nextS st k u, 0)) := Lib.hid (by rw [HR.out]; rfl)
      have HLen : Hid ((cycZ zs gs st k u).length = 256 ∧ (cycG gs st k).length = 16) := Lib.hid ⟨by rw [cycZ_len]; exact H.out.1, by rw [cycG_len]; exact H.out.2.1⟩
      generalize cycZ zs gs st k u = zr at HP HR2 HLen
      generalize cycG gs st k = gr at HP HR2 HLen
      generalize nextS st k u = sr at HP HR2
      clear q hok ha hav H HR HOk hku
      go_wp2_with fail
      refine HP.out.mono ?_
      rintro e wx ⟨Ax, nx, cx, Cx, mx, dx, rfl, Lx, Mx, Sx, Rx, hbx⟩
      have HO := Lib.hid (l03Own Ax Cx nx cx mx dx sr zr gr wx Lx.out Mx.out (by have := Lx.out; have := HLen.out; omega) (by have := Mx.out; have := HLen.out; omega) Sx.out Rx.out)
      clear Lx Mx Sx Rx HLen HP
      go_wp2_with fail
      refine HO.out.mono ?_
      rintro e w3 ⟨A3, n3, c3, C3, m3, d3, rfl, L3, M3, S3, R3, hb3'⟩
      have hb3 := bt hbx hb3'
      have HSz : Hid (w.heap.size ≤ wx.heap.size) := Lib.hid (bt hb hbx).size
      have Y3 := HY2.out.step hb3
      have s0 := Y3.cell 0 rfl
      have s1 := Y3.cell 1 rfl
      have s2 := Y3.cell 2 rfl
      have s0z := Y3.frozen 0
      have s1z := Y3.frozen 1
      have s2z := Y3.frozen 2
      have HY3 := Lib.hid Y3
      clear Y3 e0 e1 e2 y0 y1 y2 y0z y1z y2z hbx hb3' HO
      go_wp2
      refine bodyPost_ret (v := .tuple #[.agg #[.slice A3 n3 c3, .slice C3 m3 d3, .int .i64 sr], .int .i64 0]) (by simp [results, Try.results16, go_sem, s0, s1, s2]) rfl ?_
      rw [HR2.out]
      exact ⟨_, _, _, _, _, _, rfl, L3, M3, Lib.hid ((S3.out.far3 HY3.out _ _ _).wideB HSz.out (by rw [size3]; exact Nat.le_refl _)), Lib.hid ((R3.out.far3 HY3.out _ _ _).wide HSz.out (by rw [size3]; exact Nat.le_refl _)), below3 (bt hb hb3) (by omega) _ _ _⟩
    · have hcb : (cd != 0) = true := by simp [hz]
      have HR2 : Hid (r = ([], [], 0, cd)) := Lib.hid (by rw [HR.out]; unfold gate; rw [if_neg hz])
      clear hz HR HOk H
      go_wp2
      refine bodyPost_ret (v := .tuple #[.agg #[.slice none 0 0, .slice none 0 0, .int .i64 0], .int .i64 cd]) (by simp [results, Try.results16, go_sem, y0, y1, y2]) rfl ?_
      rw [HR2.out]
      exact ⟨_, _, _, _, _, _, rfl, Lib.hid rfl, Lib.hid rfl, Lib.hid (.inl rfl), Lib.hid (.inl rfl), below3 hb (by omega) _ _ _⟩
  · have ha' : byB a = false := by simpa using ha
    have HQ : Hid (false = (byB a && byB v)) := Lib.hid (by rw [ha', Bool.false_and])
    have hz : cd ≠ 0 := fun e => by have := (HOk.out e).2; rw [ha', Bool.false_and] at this; cases this
    have hcb : (cd != 0) = true := by simp [hz]
    have HR2 : Hid (r = ([], [], 0, cd)) := Lib.hid (by rw [HR.out]; unfold gate; rw [if_neg hz])
    clear ha hz HR HOk H
    go_enter Try.func16, Try.ntmps16
    go_wp2
    rw [← HW.out]
    first
    | (go_region_with
        (first | (go_at_call 47; refine (l03At _ _).mono ?_; rintro e w' ⟨rfl, rfl⟩; rw [ha']) | (go_at_call 46; refine (HC2.out _ hb0.drew _ HQ.out).mono ?_; rintro e w2 ⟨rfl, hb2⟩)))
    | fail
    all_goals (
      have hk2 := bt h6 hb2
      have hb := bt hb0 hk2
      have Y2 := HY.out.step hk2
      have y0 := Y2.cell 0 rfl
      have y1 := Y2.cell 1 rfl
      have y2 := Y2.cell 2 rfl
      have y0z := Y2.frozen 0
      have y1z := Y2.frozen 1
      have y2z := Y2.frozen 2
      clear f0 f1 f2 hb0 h6 HK HY HW HC2 hb2 hk2 Y2 HQ
      go_wp2
      refine bodyPost_ret (v := .tuple #[.agg #[.slice none 0 0, .slice none 0 0, .int .i64 0], .int .i64 cd]) (by simp [results, Try.results16, go_sem, y0, y1, y2]) rfl ?_
      rw [HR2.out]
      exact ⟨_, _, _, _, _, _, rfl, Lib.hid rfl, Lib.hid rfl, Lib.hid (.inl rfl), Lib.hid (.inl rfl), below3 hb (by omega) _ _ _⟩)

set_option maxRecDepth 100000 in
set_option maxHeartbeats 4000000 in
theorem implBusWrite (A C : Option Addr) (n c m d : Nat) (st : Int) (zs : List Int) (gs : List Bool) (a v : Int) (w : World) (hl : zs.length = n) (hm : gs.length = m) (hn : n ≤ maxLen) (hmm : m ≤ maxLen) (h : IntL w A zs) (g : BoolL w C gs) :
    Calls Try.prog 15 #[.agg #[.slice A n c, .slice C m d, .int .i64 st], .int .i64 a, .int .i64 v] w (GivesFlashCode (writeF zs gs st a v).1 (writeF zs gs st a v).2.1 (writeF zs gs st a v).2.2.1 (writeF zs gs st a v).2.2.2 w) := by
  obtain ⟨W0, hW0⟩ : ∃ W0, W0 = ((w.alloc (.cells #[.slice A n c, .slice C m d, .int .i64 st] 26)).alloc (.cells #[.slice none 0 0, .slice none 0 0, .int .i64 0] 26)) := ⟨_, rfl⟩
  have hb0 : Below w.heap.size w W0 := by rw [hW0]; exact bt (alloc_below _ _) (alloc_below _ _)
  have X0 : Box W0 w.heap.size 26 #[.slice A n c, .slice C m d, .int .i64 st] := by rw [hW0]; exact (Box.new _ _ _).alloc _
  have Y0 : Box W0 (w.heap.size + 1) 26 #[.slice none 0 0, .slice none 0 0, .int .i64 0] := by rw [hW0]; simpa using Box.new (w.alloc (.cells #[.slice A n c, .slice C m d, .int .i64 st] 26)) 26 #[.slice none 0 0, .slice none 0 0, .int .i64 0]
  have HC := Lib.hid (checkCell A C n c m d st a v zs gs W0 hl hm hn hmm (h.below hb0))
  have H := Lib.hid (And.intro hl (And.intro hm (And.intro h g)))
  have HR : Hid (writeF zs gs st a v = gate (codeIf (okFlash zs gs st) (byB a && byB v)) (cycZ zs gs st a.toNat v.toNat) (cycG gs st a.toNat) (nextS st a v)) := Lib.hid rfl
  have HOk : Hid (codeIf (okFlash zs gs st) (byB a && byB v) = 0 → okFlash zs gs st = true ∧ (byB a && byB v) = true) := Lib.hid (fun e => codeIf_ok e)
  generalize writeF zs gs st a v = r at HR
  generalize codeIf (okFlash zs gs st) (byB a && byB v) = cd at HC HR HOk
  have HX := Lib.hid (And.intro X0 Y0)
  have HW0 := Lib.hid hW0
  clear hl hm hn hmm h g hW0 X0 Y0
  go_enter Try.func15, Try.ntmps15
  go_wp2_with fail
  rw [← HW0.out]
  refine HC.out.mono ?_
  rintro e w2 ⟨rfl, hb2⟩
  have hb := bt hb0 hb2
  have X2 := HX.out.1.step hb2
  have Y2 := HX.out.2.step hb2
  have e0 := X2.cell 0 rfl
  have e1 := X2.cell 1 rfl
  have e2 := X2.cell 2 rfl
  have y0 := Y2.cell 0 rfl
  have y1 := Y2.cell 1 rfl
  have y2 := Y2.cell 2 rfl
  have y0z := Y2.frozen 0
  have y1z := Y2.frozen 1
  have y2z := Y2.frozen 2
  have HY2 := Lib.hid Y2
  clear X2 Y2 HX HW0 HC hb0 hb2
  by_cases hz : cd = 0
  · subst hz
    obtain ⟨hok, hab⟩ := HOk.out rfl
    have q := okFlash_len hok
    obtain rfl : n = 256 := by have := H.out.1; omega
    obtain rfl : m = 16 := by have := H.out.2.1; omega
    obtain ⟨hka, hva⟩ : byB a = true ∧ byB v = true := by simpa using hab
    obtain ⟨k, rfl⟩ : ∃ k : Nat, a = k := ⟨a.toNat, by have := byB_range hka; omega⟩
    obtain ⟨u, rfl⟩ : ∃ u : Nat, v = u := ⟨v.toNat, by have := byB_range hva; omega⟩
    have hk : k < 256 := by have := byB_range hka; omega
    have hu : u < 256 := by have := byB_range hva; omega
    have hwr := wrap8 (u : Int) (by omega) (by omega)
    have hmd : (u : Int) % 256 = u := by omega
    clear hka hva
    have HP := Lib.hid (chipOf A C 256 c 16 d st zs gs w2 H.out.1 H.out.2.1 rfl rfl q.2.2.2 (H.out.2.2.1.below hb) (H.out.2.2.2.below hb))
    have HQ := Lib.hid (fun W => chipCycle k u zs gs st W q.1 q.2.1 q.2.2.1 hk hu q.2.2.2)
    have HF := Lib.hid (fun W => chipFlash (cycZ zs gs st k u) (cycG gs st k) (nextS st k u) W (by rw [cycZ_len]; exact q.1) (by rw [cycG_len]; exact q.2.1) (cycZ_range q.2.2.2 hu))
    have HR2 : Hid (r = (cycZ zs gs st k u, cycG gs st k, nextS st k u, 0)) := Lib.hid (by rw [HR.out]; rfl)
    have HQ2 : Hid (∀ W, Calls Try.prog 44 #[.agg (chipC zs gs st).toArray, .int .i64 k, .int .u8 u] W fun e w' => e = .returned (.agg (chipC (cycZ zs gs st k u) (cycG gs st k) (nextS st k u)).toArray) ∧ Below W.heap.size W w') := HQ
    have HP2 : Hid (Calls Try.prog 43 #[.agg #[.slice A 256 c, .slice C 16 d, .int .i64 st]] w2 fun e w' => e = .returned (.agg (chipC zs gs st).toArray) ∧ Below w2.heap.size w2 w') := HP
    clear HP HQ
    generalize chipC zs gs st = ca at HP2 HQ2
    generalize chipC (cycZ zs gs st k u) (cycG gs st k) (nextS st k u) = cb at HQ2 HF
    generalize cycZ zs gs st k u = zr at HR2 HF
    generalize cycG gs st k = gr at HR2 HF
    generalize nextS st k u = sr at HR2 HF
    clear q hok hab H HR HOk
    go_wp2_with fail
    refine HP2.out.mono ?_
    rintro e w3 ⟨rfl, hb3⟩
    go_wp2_with fail
    refine (HQ2.out w3).mono ?_
    rintro e w4 ⟨rfl, hb4⟩
    go_wp2_with fail
    refine (HF.out w4).mono ?_
    rintro e w5 ⟨A5, n5, c5, C5, m5, d5, rfl, L5, M5, S5, R5, hb5⟩
    have hk := bt (bt hb3 hb4) hb5
    have Y5 := HY2.out.step hk
    have s0 := Y5.cell 0 rfl
    have s1 := Y5.cell 1 rfl
    have s2 := Y5.cell 2 rfl
    have s0z := Y5.frozen 0
    have s1z := Y5.frozen 1
    have s2z := Y5.frozen 2
    have HY5 := Lib.hid Y5
    have HSz : Hid (w.heap.size ≤ w4.heap.size) := Lib.hid (bt hb (bt hb3 hb4)).size
    have hbz := bt hb hk
    clear Y5 e0 e1 e2 y0 y1 y2 y0z y1z y2z HP2 HQ2 HF hb3 hb4 hb5 hk hb
    go_wp2
    refine bodyPost_ret (v := .tuple #[.agg #[.slice A5 n5 c5, .slice C5 m5 d5, .int .i64 sr], .int .i64 0]) (by simp [results, Try.results15, go_sem, s0, s1, s2]) rfl ?_
    rw [HR2.out]
    exact ⟨_, _, _, _, _, _, rfl, L5, M5, Lib.hid ((S5.out.far3 HY5.out _ _ _).wideB HSz.out (by rw [size3]; exact Nat.le_refl _)), Lib.hid ((R5.out.far3 HY5.out _ _ _).wide HSz.out (by rw [size3]; exact Nat.le_refl _)), below3 hbz (by omega) _ _ _⟩
  · have hcb : (cd != 0) = true := by simp [hz]
    have HR2 : Hid (r = ([], [], 0, cd)) := Lib.hid (by rw [HR.out]; unfold gate; rw [if_neg hz])
    clear hz HR HOk H
    go_wp2
    refine bodyPost_ret (v := .tuple #[.agg #[.slice none 0 0, .slice none 0 0, .int .i64 0], .int .i64 cd]) (by simp [results, Try.results15, go_sem, y0, y1, y2]) rfl ?_
    rw [HR2.out]
    exact ⟨_, _, _, _, _, _, rfl, Lib.hid rfl, Lib.hid rfl, Lib.hid (.inl rfl), Lib.hid (.inl rfl), below3 hb (by omega) _ _ _⟩
end Go.Proofs.Ytapopagphoiemaa
