/- The model's l05Get, l05Put, l05Own, BusGet and BusPut. Written by gen_busspec.py. -/
import Derived.Test.YtcchhbkbnbphhaaGreatDoorM9
import Derived.Test.YtcchhbkbnbphhaaGreatDoorBusWrite
namespace Go.Proofs.YtcchhbkbnbphhaaGreatDoor
open Go.RowKit

section
variable (A0 A1 A2 A3 : Option Addr) (c0 c1 c2 c3 : Nat) (d0 d1 d2 : List Int) (d3 : List Bool) (d4 : Int) (w : World)
set_option maxRecDepth 100000 in
theorem l05Get (k : Nat) (hk : k < 4096) (l0 : d0.length = 256) (l1 : d1.length = 32) (l2 : d2.length = 256) (l3 : d3.length = 16) (h0 : IntL w A0 d0) (h1 : IntL w A1 d1) (h2 : IntL w A2 d2) (h3 : BoolL w A3 d3) :
    Calls Tryz.prog 60 #[.agg #[.slice A0 256 c0, .slice A1 32 c1, .slice A2 256 c2, .slice A3 16 c3, .int .i64 d4], .int .i64 k] w fun e w' => e = .returned (.int .i64 (getV d0 d1 d2 d3 readV d4 k)) ∧ Below w.heap.size w w' := by
  have hb0 := alloc_below w (.cells #[.slice A0 256 c0, .slice A1 32 c1, .slice A2 256 c2, .slice A3 16 c3, .int .i64 d4] 31)
  have HRe := Lib.hid (fun W => l05Region (k : Int) W (by omega) (by omega))
  have H := Lib.hid (And.intro (And.intro l0 (And.intro l1 (And.intro l2 l3))) (And.intro (h0.below hb0) (And.intro (h1.below hb0) (And.intro (h2.below hb0) (h3.below hb0)))))
  obtain ⟨r, hv⟩ : ∃ r, getV d0 d1 d2 d3 readV d4 k = r := ⟨_, rfl⟩
  rw [hv]
  have HV := Lib.hid hv
  clear l0 l1 l2 l3 h0 h1 h2 h3 hv
  rcases reg_ways k hk with ⟨q1, e1, e2⟩ | ⟨q1, q2, e1, e2⟩ | ⟨q1, q2, e1, e2⟩ | ⟨q1, q2, e1, e2⟩
  · rw [e1, e2] at HRe
    have HE : Hid (r = d0.getD k 0) := Lib.hid (by rw [← HV.out]; unfold getV; rw [e1, e2, if_pos rfl]; rfl)
    clear e1 e2 HV
    obtain ⟨bb, off, rfl, hc⟩ := H.out.2.1 k (by have := H.out.1.1; omega)
    generalize d0.getD k 0 = x at hc HE
    have hi : (k : Int) < 256 := by omega
    go_enter Tryz.func60, Tryz.ntmps60
    go_wp2_with fail
    refine (HRe.out _).mono ?_
    rintro e w1 ⟨rfl, rfl⟩
    go_wp2
    go_ret
    exact ⟨ret_int HE.out.symm, hb0⟩
  · rw [e1, e2] at HRe
    have HE : Hid (r = d1.getD (k - 256) 0) := Lib.hid (by rw [← HV.out]; unfold getV; rw [e1, e2, if_neg (by omega), if_pos rfl]; rfl)
    clear e1 e2 HV
    obtain ⟨j, hj⟩ : ∃ j, k - 256 = j := ⟨_, rfl⟩
    rw [hj] at HRe HE
    have hj32 : j < 32 := by omega
    clear hj
    obtain ⟨bb, off, rfl, hc⟩ := H.out.2.2.1 j (by have := H.out.1.2.1; omega)
    generalize d1.getD j 0 = x at hc HE
    have hi : (j : Int) < 32 := by omega
    go_enter Tryz.func60, Tryz.ntmps60
    go_wp2_with fail
    refine (HRe.out _).mono ?_
    rintro e w1 ⟨rfl, rfl⟩
    go_wp2
    go_ret
    exact ⟨ret_int HE.out.symm, hb0⟩
  · rw [e1, e2] at HRe
    have HE : Hid (r = readV d2 d3 d4 (k - 512)) := Lib.hid (by rw [← HV.out]; unfold getV; rw [e1, e2, if_neg (by omega), if_neg (by omega), if_pos rfl]; rfl)
    clear e1 e2 HV
    obtain ⟨j, hj⟩ : ∃ j, k - 512 = j := ⟨_, rfl⟩
    rw [hj] at HRe HE
    have hj32 : j ≤ 255 := by omega
    clear hj
    have HM := Lib.hid (l03Read A2 A3 256 c2 c3 j d4 d2 d3 _ H.out.1.2.2.1 rfl H.out.1.2.2.2 hj32 H.out.2.2.2.1 H.out.2.2.2.2)
    go_enter Tryz.func60, Tryz.ntmps60
    go_wp2_with fail
    refine (HRe.out _).mono ?_
    rintro e w1 ⟨rfl, rfl⟩
    go_wp2_with fail
    refine HM.out.mono ?_
    rintro e w3 ⟨rfl, hb3⟩
    go_wp2
    go_ret
    exact ⟨ret_int HE.out.symm, bt hb0 hb3⟩
  · rw [e1, e2] at HRe
    have HE : Hid (r = 255) := Lib.hid (by rw [← HV.out]; unfold getV; rw [e1, if_neg (by omega), if_neg (by omega), if_neg (by omega)])
    clear e1 e2 HV H
    go_enter Tryz.func60, Tryz.ntmps60
    go_wp2_with fail
    refine (HRe.out _).mono ?_
    rintro e w1 ⟨rfl, rfl⟩
    go_wp2
    go_ret
    exact ⟨ret_int HE.out.symm, hb0⟩

def ReadsMem (r i zs : List Int) (gs : List Bool) (st : Int) (w : World) (e : Ending) (w' : World) : Prop :=
  ∃ A0 A1 A2 A3 c0 c1 c2 c3, e = .returned (.agg #[.slice A0 256 c0, .slice A1 32 c1, .slice A2 256 c2, .slice A3 16 c3, .int .i64 st]) ∧ Hid (IntL w' A0 r ∧ IntL w' A1 i ∧ IntL w' A2 zs ∧ BoolL w' A3 gs) ∧ Below w.heap.size w w'

def LaterFlash (zs : List Int) (gs : List Bool) (st : Int) (w W : World) (e : Ending) (w1 : World) : Prop :=
  ∃ A n c C m d, e = .returned (.agg #[.slice A n c, .slice C m d, .int .i64 st]) ∧ Hid (zs.length = n) ∧ Hid (gs.length = m) ∧ Hid (∀ W', Below w.heap.size w W' → (∀ (lo hi : Nat), (∀ D ds, OwnI w1 lo hi D ds → OwnI W' lo hi D ds) ∧ (∀ D ds, OwnB w1 lo hi D ds → OwnB W' lo hi D ds)) → IntL W' A zs ∧ BoolL W' C gs) ∧ Below W.heap.size W w1
set_option maxRecDepth 100000 in
theorem l03WriteM (A C : Option Addr) (c d k v : Nat) (st : Int) (zs : List Int) (gs : List Bool) (w0 W : World) (hk : k < 256) (hv : v < 256) (hs : 0 ≤ st ∧ st ≤ 8) (hz : ∀ z ∈ zs, 0 ≤ z ∧ z ≤ 255) (h : FlashAt W A C zs gs) (h2 : IntL w0 A zs) (h3 : BoolL w0 C gs) (_hb : Below w0.heap.size w0 W) :
    Calls Tryz.prog 110 #[.agg #[.slice A 256 c, .slice C 16 d, .int .i64 st], .int .i64 k, .int .i64 v] W (LaterFlash (cycZ zs gs st k v) (cycG gs st k) (nextS st k v) w0 W) := by
  refine (l03Write0 A C c d k v st zs gs W hk hv hs hz h).mono ?_
  rintro e w' (⟨A', n, c', C', m, d', rfl, L, M, S, Q, k⟩ | ⟨q1, q2, rfl, q4⟩)
  · exact ⟨A', n, c', C', m, d', rfl, L, M, Lib.hid (fun W' _ q => ⟨((q _ _).1 _ _ S.out).reads, ((q _ _).2 _ _ Q.out).reads⟩), k⟩
  · rw [q1, q2]
    exact ⟨A, 256, c, C, 16, d, rfl, Lib.hid h.1.1, Lib.hid h.1.2, Lib.hid (fun W' f _ => ⟨h2.below f, h3.below f⟩), q4⟩

set_option maxRecDepth 100000 in
set_option maxHeartbeats 4000000 in
theorem l05Put (k v : Nat) (hk : k < 4096) (hv : v < 256) (l0 : d0.length = 256) (l1 : d1.length = 32) (l2 : d2.length = 256) (l3 : d3.length = 16) (hs : 0 ≤ d4 ∧ d4 ≤ 8) (hz : ∀ z ∈ d2, 0 ≤ z ∧ z ≤ 255) (h0 : IntL w A0 d0) (h1 : IntL w A1 d1) (h2 : IntL w A2 d2) (h3 : BoolL w A3 d3) :
    Calls Tryz.prog 68 #[.agg #[.slice A0 256 c0, .slice A1 32 c1, .slice A2 256 c2, .slice A3 16 c3, .int .i64 d4], .int .i64 k, .int .i64 v] w (ReadsMem (putR d0 k v) (putI d1 k v) (putZ d2 d3 d4 k v) (putG d3 d4 k) (putS d4 k v) w) := by
  obtain ⟨W0, hW0⟩ : ∃ W0, W0 = ((w.alloc (.cells #[.slice A0 256 c0, .slice A1 32 c1, .slice A2 256 c2, .slice A3 16 c3, .int .i64 d4] 31)).alloc (.cells #[.slice none 0 0, .slice none 0 0, .slice none 0 0, .slice none 0 0, .int .i64 0] 31)) := ⟨_, rfl⟩
  have hb0 : Below w.heap.size w W0 := by rw [hW0]; exact bt (alloc_below _ _) (alloc_below _ _)
  have X0 : Hid (Box W0 w.heap.size 31 #[.slice A0 256 c0, .slice A1 32 c1, .slice A2 256 c2, .slice A3 16 c3, .int .i64 d4]) := Lib.hid (by rw [hW0]; exact (Box.new _ _ _).alloc _)
  have Y0 : Hid (Box W0 (w.heap.size + 1) 31 #[.slice none 0 0, .slice none 0 0, .slice none 0 0, .slice none 0 0, .int .i64 0]) := Lib.hid (by rw [hW0]; simpa using Box.new (w.alloc (.cells #[.slice A0 256 c0, .slice A1 32 c1, .slice A2 256 c2, .slice A3 16 c3, .int .i64 d4] 31)) 31 #[.slice none 0 0, .slice none 0 0, .slice none 0 0, .slice none 0 0, .int .i64 0])
  have HRe := Lib.hid (fun W => l05Region (k : Int) W (by omega) (by omega))
  have H := Lib.hid (And.intro (And.intro l0 (And.intro l1 (And.intro l2 l3))) (And.intro h0 (And.intro h1 (And.intro h2 h3))))
  have HSt := Lib.hid (And.intro hs hz)
  have HW0 := Lib.hid hW0
  clear l0 l1 l2 l3 h0 h1 h2 h3 hs hz hW0
  rcases reg_ways k hk with ⟨q1, e1, e2⟩ | ⟨q1, q2, e1, e2⟩ | ⟨q1, q2, e1, e2⟩ | ⟨q1, q2, e1, e2⟩
  · rw [show putR d0 k v = d0.set k v from by unfold putR; rw [if_pos e1, e2]; rfl, show putI d1 k v = d1 from by unfold putI; rw [if_neg (by rw [e1]; omega)], show putZ d2 d3 d4 k v = d2 from by unfold putZ; rw [if_neg (by rw [e1]; omega)], show putG d3 d4 k = d3 from by unfold putG; rw [if_neg (by rw [e1]; omega)], show putS d4 k v = d4 from by unfold putS; rw [if_neg (by rw [e1]; omega)]]
    rw [e1, e2] at HRe
    clear e1 e2
    have hi : (k : Int) < 256 := by omega
    have HS := Lib.hid (fun W (hb : Below w.heap.size w W) => (H.out.2.1.below hb).src (by have := H.out.1.1; omega))
    have HC : Hid ((cellsI d0).length = 256 * 1) := Lib.hid (by rw [cellsI_len]; have := H.out.1.1; omega)
    have hba := bt hb0 (alloc_below W0 (.cells #[] 3))
    have x0 : (W0.alloc (.cells #[] 3)).cell? ⟨w.heap.size, 0, none⟩ = some (.slice A0 256 c0) := (X0.out.alloc _).cell 0 rfl
    go_enter Tryz.func68, Tryz.ntmps68
    go_wp2_with fail
    rw [← HW0.out]
    refine (HRe.out _).mono ?_
    rintro e w1 ⟨rfl, rfl⟩
    go_wp2_with (first | (with_reducible refine wpList_app_fresh rfl (.tmp 17) (.tmp 19) 23 rfl 3 (.int .i64 0) 1 8 Tryz.underlying23 infoIx rfl (by decide) _ rfl A0 256 c0 (by omega) (cellsI d0) rfl HC.out (HS.out _ hba) (by unfold maxLen; omega) (by omega) ?_))
    intro B e w1 hb1 O1
    have hk1 := (alloc_below W0 (.cells #[] 3)).trans (hb1.mono (by omega))
    have X1 := X0.out.step hk1
    have Y1 := Y0.out.step hk1
    have S1 := ownI_fresh (lo := w.heap.size) O1.out (by omega) (by have := hb0.size; omega)
    obtain ⟨w2, hw2⟩ : ∃ w2, w2 = w1.setCell ⟨w.heap.size, 0, none⟩ (.slice B 256 e) := ⟨_, rfl⟩
    have X2 : Box w2 w.heap.size 31 #[.slice B 256 e, .slice A1 32 c1, .slice A2 256 c2, .slice A3 16 c3, .int .i64 d4] := by rw [hw2]; exact X1.set 0 _
    have Y2 : Box w2 (w.heap.size + 1) 31 #[.slice none 0 0, .slice none 0 0, .slice none 0 0, .slice none 0 0, .int .i64 0] := by rw [hw2]; exact Y1.far (p := ⟨w.heap.size, 0, none⟩) (by show w.heap.size + 1 ≠ w.heap.size; omega) _
    have S2 : OwnI w2 w.heap.size w1.heap.size B d0 := by rw [hw2]; exact S1.farB X1 (by decide) 0 _
    have hb2 : Below w.heap.size w w2 := by rw [hw2]; exact (bt hb0 hk1).setCell (Nat.le_refl _) _
    obtain ⟨ba, ma, fa, rfl, hca, hfa, hlo, hhi, hra, hput⟩ := S2.put k (by have := H.out.1.1; omega)
    have k0 := X1.cell 0 rfl
    have k0z := X1.frozen 0
    have m0 := X2.cell 0 rfl
    generalize (d0).getD k 0 = y at hca
    have X3 := X2.other hra (by decide) k (.int .i64 v)
    have Y3 := Y2.other hra (by decide) k (.int .i64 v)
    have hb3 : Below w.heap.size w (w2.setCell ⟨ba, k, none⟩ (.int .i64 v)) := hb2.setCell (p := ⟨ba, k, none⟩) hlo _
    have HR3 := Lib.hid (hput v)
    have HY3 := Lib.hid (And.intro Y3 hb3)
    have x0 := X3.cell 0 rfl
    have x1 := X3.cell 1 rfl
    have x2 := X3.cell 2 rfl
    have x3 := X3.cell 3 rfl
    have x4 := X3.cell 4 rfl
    have s0 := Y3.cell 0 rfl
    have s1 := Y3.cell 1 rfl
    have s2 := Y3.cell 2 rfl
    have s3 := Y3.cell 3 rfl
    have s4 := Y3.cell 4 rfl
    have s0z := Y3.frozen 0
    have s1z := Y3.frozen 1
    have s2z := Y3.frozen 2
    have s3z := Y3.frozen 3
    have s4z := Y3.frozen 4
    have HW2 := Lib.hid hw2
    rw [hw2] at hca hfa m0 x0 x1 x2 x3 x4 s0 s1 s2 s3 s4 s0z s1z s2z s3z s4z
    clear hw2 hk1 X1 Y1 S1 X2 Y2 S2 X3 Y3 hput hra hb3 hb2 hlo hhi O1 hba HS HC hb1
    go_wp2
    refine bodyPost_ret (v := .agg #[.slice (some ⟨ba, 0, none⟩) 256 e, .slice A1 32 c1, .slice A2 256 c2, .slice A3 16 c3, .int .i64 d4]) (by simp [results, Tryz.results68, go_sem, s0, s1, s2, s3, s4]) rfl ?_
    rw [← HW2.out]
    exact have f := below5 HY3.out.2 (by omega) _ _ _ _ _; ⟨_, A1, A2, A3, e, c1, c2, c3, rfl, Lib.hid ⟨(HR3.out.far5 HY3.out.1 _ _ _ _ _).reads, H.out.2.2.1.below f, H.out.2.2.2.1.below f, H.out.2.2.2.2.below f⟩, f⟩
  · obtain ⟨j, hj⟩ : ∃ j, k - 256 = j := ⟨_, rfl⟩
    rw [hj] at e2
    have hj32 : j < 32 := by omega
    by_cases hj0 : 0 < j
    · rw [show putI d1 k v = d1.set j v from by unfold putI; rw [if_pos ⟨e1, by rw [e2]; omega⟩, e2]; rfl, show putR d0 k v = d0 from by unfold putR; rw [if_neg (by rw [e1]; omega)], show putZ d2 d3 d4 k v = d2 from by unfold putZ; rw [if_neg (by rw [e1]; omega)], show putG d3 d4 k = d3 from by unfold putG; rw [if_neg (by rw [e1]; omega)], show putS d4 k v = d4 from by unfold putS; rw [if_neg (by rw [e1]; omega)]]
      rw [e1, e2] at HRe
      clear e1 e2 hj
      have hi : (j : Int) < 32 := by omega
      have hjp : (0 : Int) < (j : Int) := by omega
      have HS := Lib.hid (fun W (hb : Below w.heap.size w W) => (H.out.2.2.1.below hb).src (by have := H.out.1.2.1; omega))
      have HC : Hid ((cellsI d1).length = 32 * 1) := Lib.hid (by rw [cellsI_len]; have := H.out.1.2.1; omega)
      have hba := bt hb0 (alloc_below W0 (.cells #[] 3))
      have x1 : (W0.alloc (.cells #[] 3)).cell? ⟨w.heap.size, 1, none⟩ = some (.slice A1 32 c1) := (X0.out.alloc _).cell 1 rfl
      go_enter Tryz.func68, Tryz.ntmps68
      go_wp2_with fail
      rw [← HW0.out]
      refine (HRe.out _).mono ?_
      rintro e w1 ⟨rfl, rfl⟩
      go_wp2_with (first | (with_reducible refine wpList_app_fresh rfl (.tmp 34) (.tmp 36) 23 rfl 3 (.int .i64 0) 1 8 Tryz.underlying23 infoIx rfl (by decide) _ rfl A1 32 c1 (by omega) (cellsI d1) rfl HC.out (HS.out _ hba) (by unfold maxLen; omega) (by omega) ?_))
      intro B e w1 hb1 O1
      have hk1 := (alloc_below W0 (.cells #[] 3)).trans (hb1.mono (by omega))
      have X1 := X0.out.step hk1
      have Y1 := Y0.out.step hk1
      have S1 := ownI_fresh (lo := w.heap.size) O1.out (by omega) (by have := hb0.size; omega)
      obtain ⟨w2, hw2⟩ : ∃ w2, w2 = w1.setCell ⟨w.heap.size, 1, none⟩ (.slice B 32 e) := ⟨_, rfl⟩
      have X2 : Box w2 w.heap.size 31 #[.slice A0 256 c0, .slice B 32 e, .slice A2 256 c2, .slice A3 16 c3, .int .i64 d4] := by rw [hw2]; exact X1.set 1 _
      have Y2 : Box w2 (w.heap.size + 1) 31 #[.slice none 0 0, .slice none 0 0, .slice none 0 0, .slice none 0 0, .int .i64 0] := by rw [hw2]; exact Y1.far (p := ⟨w.heap.size, 1, none⟩) (by show w.heap.size + 1 ≠ w.heap.size; omega) _
      have S2 : OwnI w2 w.heap.size w1.heap.size B d1 := by rw [hw2]; exact S1.farB X1 (by decide) 1 _
      have hb2 : Below w.heap.size w w2 := by rw [hw2]; exact (bt hb0 hk1).setCell (Nat.le_refl _) _
      obtain ⟨ba, ma, fa, rfl, hca, hfa, hlo, hhi, hra, hput⟩ := S2.put j (by have := H.out.1.2.1; omega)
      have k0 := X1.cell 1 rfl
      have k0z := X1.frozen 1
      have m0 := X2.cell 1 rfl
      generalize (d1).getD j 0 = y at hca
      have X3 := X2.other hra (by decide) j (.int .i64 v)
      have Y3 := Y2.other hra (by decide) j (.int .i64 v)
      have hb3 : Below w.heap.size w (w2.setCell ⟨ba, j, none⟩ (.int .i64 v)) := hb2.setCell (p := ⟨ba, j, none⟩) hlo _
      have HR3 := Lib.hid (hput v)
      have HY3 := Lib.hid (And.intro Y3 hb3)
      have x0 := X3.cell 0 rfl
      have x1 := X3.cell 1 rfl
      have x2 := X3.cell 2 rfl
      have x3 := X3.cell 3 rfl
      have x4 := X3.cell 4 rfl
      have s0 := Y3.cell 0 rfl
      have s1 := Y3.cell 1 rfl
      have s2 := Y3.cell 2 rfl
      have s3 := Y3.cell 3 rfl
      have s4 := Y3.cell 4 rfl
      have s0z := Y3.frozen 0
      have s1z := Y3.frozen 1
      have s2z := Y3.frozen 2
      have s3z := Y3.frozen 3
      have s4z := Y3.frozen 4
      have HW2 := Lib.hid hw2
      rw [hw2] at hca hfa m0 x0 x1 x2 x3 x4 s0 s1 s2 s3 s4 s0z s1z s2z s3z s4z
      clear hw2 hk1 X1 Y1 S1 X2 Y2 S2 X3 Y3 hput hra hb3 hb2 hlo hhi O1 hba HS HC hb1
      go_wp2
      refine bodyPost_ret (v := .agg #[.slice A0 256 c0, .slice (some ⟨ba, 0, none⟩) 32 e, .slice A2 256 c2, .slice A3 16 c3, .int .i64 d4]) (by simp [results, Tryz.results68, go_sem, s0, s1, s2, s3, s4]) rfl ?_
      rw [← HW2.out]
      exact have f := below5 HY3.out.2 (by omega) _ _ _ _ _; ⟨A0, _, A2, A3, c0, e, c2, c3, rfl, Lib.hid ⟨H.out.2.1.below f, (HR3.out.far5 HY3.out.1 _ _ _ _ _).reads, H.out.2.2.2.1.below f, H.out.2.2.2.2.below f⟩, f⟩
    · obtain rfl : j = 0 := by omega
      rw [show putI d1 k v = d1 from by unfold putI; rw [if_neg (by rw [e2]; omega)], show putR d0 k v = d0 from by unfold putR; rw [if_neg (by rw [e1]; omega)], show putZ d2 d3 d4 k v = d2 from by unfold putZ; rw [if_neg (by rw [e1]; omega)], show putG d3 d4 k = d3 from by unfold putG; rw [if_neg (by rw [e1]; omega)], show putS d4 k v = d4 from by unfold putS; rw [if_neg (by rw [e1]; omega)]]
      rw [e1, e2] at HRe
      clear e1 e2 hj hj0
      have x0 := X0.out.cell 0 rfl
      have x1 := X0.out.cell 1 rfl
      have x2 := X0.out.cell 2 rfl
      have x3 := X0.out.cell 3 rfl
      have x4 := X0.out.cell 4 rfl
      have s0 := Y0.out.cell 0 rfl
      have s1 := Y0.out.cell 1 rfl
      have s2 := Y0.out.cell 2 rfl
      have s3 := Y0.out.cell 3 rfl
      have s4 := Y0.out.cell 4 rfl
      have s0z := Y0.out.frozen 0
      have s1z := Y0.out.frozen 1
      have s2z := Y0.out.frozen 2
      have s3z := Y0.out.frozen 3
      have s4z := Y0.out.frozen 4
      go_enter Tryz.func68, Tryz.ntmps68
      go_wp2_with fail
      rw [← HW0.out]
      refine (HRe.out _).mono ?_
      rintro e w1 ⟨rfl, rfl⟩
      go_wp2
      refine bodyPost_ret (v := .agg #[.slice A0 256 c0, .slice A1 32 c1, .slice A2 256 c2, .slice A3 16 c3, .int .i64 d4]) (by simp [results, Tryz.results68, go_sem, s0, s1, s2, s3, s4]) rfl ?_
      exact have f := below5 hb0 (by omega) _ _ _ _ _; ⟨A0, A1, A2, A3, c0, c1, c2, c3, rfl, Lib.hid ⟨H.out.2.1.below f, H.out.2.2.1.below f, H.out.2.2.2.1.below f, H.out.2.2.2.2.below f⟩, f⟩
  · obtain ⟨j, hj⟩ : ∃ j, k - 512 = j := ⟨_, rfl⟩
    rw [hj] at e2
    have hj32 : j < 256 := by omega
    rw [show putZ d2 d3 d4 k v = cycZ d2 d3 d4 j v from by unfold putZ; rw [if_pos e1, e2]; rfl, show putG d3 d4 k = cycG d3 d4 j from by unfold putG; rw [if_pos e1, e2]; rfl, show putS d4 k v = nextS d4 j v from by unfold putS; rw [if_pos e1, e2], show putR d0 k v = d0 from by unfold putR; rw [if_neg (by rw [e1]; omega)], show putI d1 k v = d1 from by unfold putI; rw [if_neg (by rw [e1]; omega)]]
    rw [e1, e2] at HRe
    clear e1 e2 hj
    have HM := Lib.hid (l03WriteM A2 A3 c2 c3 j v d4 d2 d3 w W0 hj32 hv HSt.out.1 HSt.out.2 ⟨⟨H.out.1.2.2.1, H.out.1.2.2.2⟩, H.out.2.2.2.1.below hb0, H.out.2.2.2.2.below hb0⟩ H.out.2.2.2.1 H.out.2.2.2.2 hb0)
    have HLn : Hid ((cycZ d2 d3 d4 j v).length = 256 ∧ (cycG d3 d4 j).length = 16) := Lib.hid ⟨by rw [cycZ_len]; exact H.out.1.2.2.1, by rw [cycG_len]; exact H.out.1.2.2.2⟩
    generalize cycZ d2 d3 d4 j v = r2 at HM HLn ⊢
    generalize cycG d3 d4 j = r3 at HM HLn ⊢
    generalize nextS d4 j v = r4 at HM ⊢
    have x2 := X0.out.cell 2 rfl
    have x3 := X0.out.cell 3 rfl
    have x4 := X0.out.cell 4 rfl
    go_enter Tryz.func68, Tryz.ntmps68
    go_wp2_with fail
    rw [← HW0.out]
    refine (HRe.out _).mono ?_
    rintro e w1 ⟨rfl, rfl⟩
    go_wp2_with fail
    refine HM.out.mono ?_
    rintro e w1 ⟨A, n, c, C, m, d, rfl, L, M, S, hb1⟩
    obtain rfl : n = 256 := by have := L.out; have := HLn.out.1; omega
    obtain rfl : m = 16 := by have := M.out; have := HLn.out.2; omega
    have X1 := X0.out.step hb1
    have Y1 := Y0.out.step hb1
    have k2 := X1.cell 2 rfl
    have k3 := X1.cell 3 rfl
    have k4 := X1.cell 4 rfl
    have k2z := X1.frozen 2
    have k3z := X1.frozen 3
    have k4z := X1.frozen 4
    have X2 := ((X1.set 2 (.slice A 256 c)).set 3 (.slice C 16 d)).set 4 (.int .i64 r4)
    have Y2 := ((Y1.far (p := ⟨w.heap.size, 2, none⟩) (by show w.heap.size + 1 ≠ w.heap.size; omega) (.slice A 256 c)).far (p := ⟨w.heap.size, 3, none⟩) (by show w.heap.size + 1 ≠ w.heap.size; omega) (.slice C 16 d)).far (p := ⟨w.heap.size, 4, none⟩) (by show w.heap.size + 1 ≠ w.heap.size; omega) (.int .i64 r4)
    have hb2 : Below w.heap.size w (((w1.setCell ⟨w.heap.size, 2, none⟩ (.slice A 256 c)).setCell ⟨w.heap.size, 3, none⟩ (.slice C 16 d)).setCell ⟨w.heap.size, 4, none⟩ (.int .i64 r4)) := (((bt hb0 hb1).setCell (p := ⟨w.heap.size, 2, none⟩) (Nat.le_refl _) _).setCell (p := ⟨w.heap.size, 3, none⟩) (Nat.le_refl _) _).setCell (p := ⟨w.heap.size, 4, none⟩) (Nat.le_refl _) _
    have HRd := Lib.hid (fun W' (f : Below w.heap.size w W') (q : ∀ (lo hi : Nat), (∀ D ds, OwnI w1 lo hi D ds → OwnI W' lo hi D ds) ∧ (∀ D ds, OwnB w1 lo hi D ds → OwnB W' lo hi D ds)) => S.out W' f q)
    have HX1 := Lib.hid X1
    have x0 := X2.cell 0 rfl
    have x1 := X2.cell 1 rfl
    have x2' := X2.cell 2 rfl
    have x3' := X2.cell 3 rfl
    have x4' := X2.cell 4 rfl
    have s0 := Y2.cell 0 rfl
    have s1 := Y2.cell 1 rfl
    have s2 := Y2.cell 2 rfl
    have s3 := Y2.cell 3 rfl
    have s4 := Y2.cell 4 rfl
    have s0z := Y2.frozen 0
    have s1z := Y2.frozen 1
    have s2z := Y2.frozen 2
    have s3z := Y2.frozen 3
    have s4z := Y2.frozen 4
    have HY2 := Lib.hid (And.intro Y2 hb2)
    clear X1 Y1 X2 Y2 hb2 hb1 S L M HM x2 x3 x4 X0 Y0
    go_wp2
    refine bodyPost_ret (v := .agg #[.slice A0 256 c0, .slice A1 32 c1, .slice A 256 c, .slice C 16 d, .int .i64 r4]) (by simp [results, Tryz.results68, go_sem, s0, s1, s2, s3, s4]) rfl ?_
    exact have f := below5 HY2.out.2 (by omega) _ _ _ _ _; have q := HRd.out _ f (fun lo hi => ⟨fun D ds O => (((O.farB HX1.out (by decide) 2 _).farB (HX1.out.set 2 _) (by decide) 3 _).farB ((HX1.out.set 2 _).set 3 _) (by decide) 4 _).far5 HY2.out.1 _ _ _ _ _, fun D ds O => (((O.far HX1.out (by decide) 2 _).far (HX1.out.set 2 _) (by decide) 3 _).far ((HX1.out.set 2 _).set 3 _) (by decide) 4 _).far5 HY2.out.1 _ _ _ _ _⟩); ⟨A0, A1, A, C, c0, c1, c, d, rfl, Lib.hid ⟨H.out.2.1.below f, H.out.2.2.1.below f, q.1, q.2⟩, f⟩
  · rw [show putR d0 k v = d0 from by unfold putR; rw [if_neg (by rw [e1]; omega)], show putI d1 k v = d1 from by unfold putI; rw [if_neg (by rw [e1]; omega)], show putZ d2 d3 d4 k v = d2 from by unfold putZ; rw [if_neg (by rw [e1]; omega)], show putG d3 d4 k = d3 from by unfold putG; rw [if_neg (by rw [e1]; omega)], show putS d4 k v = d4 from by unfold putS; rw [if_neg (by rw [e1]; omega)]]
    rw [e1, e2] at HRe
    clear e1 e2
    have x0 := X0.out.cell 0 rfl
    have x1 := X0.out.cell 1 rfl
    have x2 := X0.out.cell 2 rfl
    have x3 := X0.out.cell 3 rfl
    have x4 := X0.out.cell 4 rfl
    have s0 := Y0.out.cell 0 rfl
    have s1 := Y0.out.cell 1 rfl
    have s2 := Y0.out.cell 2 rfl
    have s3 := Y0.out.cell 3 rfl
    have s4 := Y0.out.cell 4 rfl
    have s0z := Y0.out.frozen 0
    have s1z := Y0.out.frozen 1
    have s2z := Y0.out.frozen 2
    have s3z := Y0.out.frozen 3
    have s4z := Y0.out.frozen 4
    go_enter Tryz.func68, Tryz.ntmps68
    go_wp2_with fail
    rw [← HW0.out]
    refine (HRe.out _).mono ?_
    rintro e w1 ⟨rfl, rfl⟩
    go_wp2
    refine bodyPost_ret (v := .agg #[.slice A0 256 c0, .slice A1 32 c1, .slice A2 256 c2, .slice A3 16 c3, .int .i64 d4]) (by simp [results, Tryz.results68, go_sem, s0, s1, s2, s3, s4]) rfl ?_
    exact have f := below5 hb0 (by omega) _ _ _ _ _; ⟨A0, A1, A2, A3, c0, c1, c2, c3, rfl, Lib.hid ⟨H.out.2.1.below f, H.out.2.2.1.below f, H.out.2.2.2.1.below f, H.out.2.2.2.2.below f⟩, f⟩
end
end Go.Proofs.YtcchhbkbnbphhaaGreatDoor
