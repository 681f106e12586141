/- Texts of this claim, one behind the other: BusSpec, MemOwn, CpuSpec. -/
import Derived.Test.YtngoijchebfolaaM5
/- The model's l05Get, l05Put, l05Own, BusGet and BusPut. Written by gen_busspec.py. -/
namespace Go.Proofs.Ytngoijchebfolaa
open Go.RowKit

section
variable (A0 A1 A2 A3 : Option Addr) (c0 c1 c2 c3 : Nat) (d0 d1 d2 : List Int) (d3 : List Bool) (d4 : Int) (w : World)
set_option maxRecDepth 100000 in
theorem l05Get (k : Nat) (hk : k < 4096) (l0 : d0.length = 256) (l1 : d1.length = 32) (l2 : d2.length = 256) (l3 : d3.length = 16) (h0 : IntL w A0 d0) (h1 : IntL w A1 d1) (h2 : IntL w A2 d2) (h3 : BoolL w A3 d3) :
    Calls Try.prog 94 #[.agg #[.slice A0 256 c0, .slice A1 32 c1, .slice A2 256 c2, .slice A3 16 c3, .int .i64 d4], .int .i64 k] w fun e w' => e = .returned (.int .i64 (getV d0 d1 d2 d3 readV d4 k)) ∧ Below w.heap.size w w' := by
  have hb0 := alloc_below w (.cells #[.slice A0 256 c0, .slice A1 32 c1, .slice A2 256 c2, .slice A3 16 c3, .int .i64 d4] 28)
  have HRe := Lib.hid (fun W => l05Region (k : Int) W (by omega) (by omega))
  have H := Lib.hid (And.intro (And.intro l0 (And.intro l1 (And.intro l2 l3))) (And.intro (h0.below hb0) (And.intro (h1.below hb0) (And.intro (h2.below hb0) (h3.below hb0)))))
  obtain ⟨r, hv⟩ : ∃ r, getV d0 d1 d2 d3 readV d4 k = r := ⟨_, rfl⟩
  rw [hv]
  have HV := Lib.hid hv
  clear l0 l1 l2 l3 h0 h1 h2 h3 hv
  rcases reg_ways k hk with ⟨q1, e1, e2⟩ | ⟨q1, q2, e1, e2⟩ | ⟨q1, q2, e1, e2⟩ | ⟨q1, q2, e1, e2⟩
  · rw [e1, e2] at HRe
    have HE : Hid (r = d0.getD k 0) := Lib.hid (by rw [← HV.out]; unfold getV; rw [e1, e2, if_pos rfl]; rfl)
    clear e1 e2 HV
    obtain ⟨bb, off, rfl, hc⟩ := H.out.2.1 k (by have := H.out.1.1; omega)
    generalize d0.getD k 0 = x at hc HE
    have hi : (k : Int) < 256 := by omega
    go_enter Try.func94, Try.ntmps94
    go_wp2_with fail
    refine (HRe.out _).mono ?_
    rintro e w1 ⟨rfl, rfl⟩
    go_wp2
    go_ret
    exact ⟨ret_int HE.out.symm, hb0⟩
  · rw [e1, e2] at HRe
    have HE : Hid (r = d1.getD (k - 256) 0) := Lib.hid (by rw [← HV.out]; unfold getV; rw [e1, e2, if_neg (by omega), if_pos rfl]; rfl)
    clear e1 e2 HV
    obtain ⟨j, hj⟩ : ∃ j, k - 256 = j := ⟨_, rfl⟩
    rw [hj] at HRe HE
    have hj32 : j < 32 := by omega
    clear hj
    obtain ⟨bb, off, rfl, hc⟩ := H.out.2.2.1 j (by have := H.out.1.2.1; omega)
    generalize d1.getD j 0 = x at hc HE
    have hi : (j : Int) < 32 := by omega
    go_enter Try.func94, Try.ntmps94
    go_wp2_with fail
    refine (HRe.out _).mono ?_
    rintro e w1 ⟨rfl, rfl⟩
    go_wp2
    go_ret
    exact ⟨ret_int HE.out.symm, hb0⟩
  · rw [e1, e2] at HRe
    have HE : Hid (r = readV d2 d3 d4 (k - 512)) := Lib.hid (by rw [← HV.out]; unfold getV; rw [e1, e2, if_neg (by omega), if_neg (by omega), if_pos rfl]; rfl)
    clear e1 e2 HV
    obtain ⟨j, hj⟩ : ∃ j, k - 512 = j := ⟨_, rfl⟩
    rw [hj] at HRe HE
    have hj32 : j ≤ 255 := by omega
    clear hj
    have HM := Lib.hid (l03Read A2 A3 256 c2 c3 j d4 d2 d3 _ H.out.1.2.2.1 rfl H.out.1.2.2.2 hj32 H.out.2.2.2.1 H.out.2.2.2.2)
    go_enter Try.func94, Try.ntmps94
    go_wp2_with fail
    refine (HRe.out _).mono ?_
    rintro e w1 ⟨rfl, rfl⟩
    go_wp2_with fail
    refine HM.out.mono ?_
    rintro e w3 ⟨rfl, hb3⟩
    go_wp2
    go_ret
    exact ⟨ret_int HE.out.symm, bt hb0 hb3⟩
  · rw [e1, e2] at HRe
    have HE : Hid (r = 255) := Lib.hid (by rw [← HV.out]; unfold getV; rw [e1, if_neg (by omega), if_neg (by omega), if_neg (by omega)])
    clear e1 e2 HV H
    go_enter Try.func94, Try.ntmps94
    go_wp2_with fail
    refine (HRe.out _).mono ?_
    rintro e w1 ⟨rfl, rfl⟩
    go_wp2
    go_ret
    exact ⟨ret_int HE.out.symm, hb0⟩

/-- A memory that reads so; its rows may be the argument's. -/
def ReadsMem (r i zs : List Int) (gs : List Bool) (st : Int) (w : World) (e : Ending) (w' : World) : Prop :=
  ∃ A0 A1 A2 A3 c0 c1 c2 c3, e = .returned (.agg #[.slice A0 256 c0, .slice A1 32 c1, .slice A2 256 c2, .slice A3 16 c3, .int .i64 st]) ∧ Hid (IntL w' A0 r ∧ IntL w' A1 i ∧ IntL w' A2 zs ∧ BoolL w' A3 gs) ∧ Below w.heap.size w w'

/-- l03Write's flash, as it reads in a later world. -/
def LaterFlash (zs : List Int) (gs : List Bool) (st : Int) (w W : World) (e : Ending) (w1 : World) : Prop :=
  ∃ A n c C m d, e = .returned (.agg #[.slice A n c, .slice C m d, .int .i64 st]) ∧ Hid (zs.length = n) ∧ Hid (gs.length = m) ∧ Hid (∀ W', Below w.heap.size w W' → (∀ (lo hi : Nat), (∀ D ds, OwnI w1 lo hi D ds → OwnI W' lo hi D ds) ∧ (∀ D ds, OwnB w1 lo hi D ds → OwnB W' lo hi D ds)) → IntL W' A zs ∧ BoolL W' C gs) ∧ Below W.heap.size W w1
set_option maxRecDepth 100000 in
theorem l03WriteM (A C : Option Addr) (c d k v : Nat) (st : Int) (zs : List Int) (gs : List Bool) (w0 W : World) (hk : k < 256) (hv : v < 256) (hs : 0 ≤ st ∧ st ≤ 8) (hz : ∀ z ∈ zs, 0 ≤ z ∧ z ≤ 255) (h : FlashAt W A C zs gs) (h2 : IntL w0 A zs) (h3 : BoolL w0 C gs) (_hb : Below w0.heap.size w0 W) :
    Calls Try.prog 117 #[.agg #[.slice A 256 c, .slice C 16 d, .int .i64 st], .int .i64 k, .int .i64 v] W (LaterFlash (cycZ zs gs st k v) (cycG gs st k) (nextS st k v) w0 W) := by
  refine (l03Write0 A C c d k v st zs gs W hk hv hs hz h).mono ?_
  rintro e w' (⟨A', n, c', C', m, d', rfl, L, M, S, Q, k⟩ | ⟨q1, q2, rfl, q4⟩)
  · exact ⟨A', n, c', C', m, d', rfl, L, M, Lib.hid (fun W' _ q => ⟨((q _ _).1 _ _ S.out).reads, ((q _ _).2 _ _ Q.out).reads⟩), k⟩
  · rw [q1, q2]
    exact ⟨A, 256, c, C, 16, d, rfl, Lib.hid h.1.1, Lib.hid h.1.2, Lib.hid (fun W' f _ => ⟨h2.below f, h3.below f⟩), q4⟩

set_option maxRecDepth 100000 in
set_option maxHeartbeats 4000000 in
theorem l05Put (k v : Nat) (hk : k < 4096) (hv : v < 256) (l0 : d0.length = 256) (l1 : d1.length = 32) (l2 : d2.length = 256) (l3 : d3.length = 16) (hs : 0 ≤ d4 ∧ d4 ≤ 8) (hz : ∀ z ∈ d2, 0 ≤ z ∧ z ≤ 255) (h0 : IntL w A0 d0) (h1 : IntL w A1 d1) (h2 : IntL w A2 d2) (h3 : BoolL w A3 d3) :
    Calls Try.prog 93 #[.agg #[.slice A0 256 c0, .slice A1 32 c1, .slice A2 256 c2, .slice A3 16 c3, .int .i64 d4], .int .i64 k, .int .i64 v] w (ReadsMem (putR d0 k v) (putI d1 k v) (putZ d2 d3 d4 k v) (putG d3 d4 k) (putS d4 k v) w) := by
  obtain ⟨W0, hW0⟩ : ∃ W0, W0 = ((w.alloc (.cells #[.slice A0 256 c0, .slice A1 32 c1, .slice A2 256 c2, .slice A3 16 c3, .int .i64 d4] 28)).alloc (.cells #[.slice none 0 0, .slice none 0 0, .slice none 0 0, .slice none 0 0, .int .i64 0] 28)) := ⟨_, rfl⟩
  have hb0 : Below w.heap.size w W0 := by rw [hW0]; exact bt (alloc_below _ _) (alloc_below _ _)
  have X0 : Hid (Box W0 w.heap.size 28 #[.slice A0 256 c0, .slice A1 32 c1, .slice A2 256 c2, .slice A3 16 c3, .int .i64 d4]) := Lib.hid (by rw [hW0]; exact (Box.new _ _ _).alloc _)
  have Y0 : Hid (Box W0 (w.heap.size + 1) 28 #[.slice none 0 0, .slice none 0 0, .slice none 0 0, .slice none 0 0, .int .i64 0]) := Lib.hid (by rw [hW0]; simpa using Box.new (w.alloc (.cells #[.slice A0 256 c0, .slice A1 32 c1, .slice A2 256 c2, .slice A3 16 c3, .int .i64 d4] 28)) 28 #[.slice none 0 0, .slice none 0 0, .slice none 0 0, .slice none 0 0, .int .i64 0])
  have HRe := Lib.hid (fun W => l05Region (k : Int) W (by omega) (by omega))
  have H := Lib.hid (And.intro (And.intro l0 (And.intro l1 (And.intro l2 l3))) (And.intro h0 (And.intro h1 (And.intro h2 h3))))
  have HSt := Lib.hid (And.intro hs hz)
  have HW0 := Lib.hid hW0
  clear l0 l1 l2 l3 h0 h1 h2 h3 hs hz hW0
  rcases reg_ways k hk with ⟨q1, e1, e2⟩ | ⟨q1, q2, e1, e2⟩ | ⟨q1, q2, e1, e2⟩ | ⟨q1, q2, e1, e2⟩
  · rw [show putR d0 k v = d0.set k v from by unfold putR; rw [if_pos e1, e2]; rfl, show putI d1 k v = d1 from by unfold putI; rw [if_neg (by rw [e1]; omega)], show putZ d2 d3 d4 k v = d2 from by unfold putZ; rw [if_neg (by rw [e1]; omega)], show putG d3 d4 k = d3 from by unfold putG; rw [if_neg (by rw [e1]; omega)], show putS d4 k v = d4 from by unfold putS; rw [if_neg (by rw [e1]; omega)]]
    rw [e1, e2] at HRe
    clear e1 e2
    have hi : (k : Int) < 256 := by omega
    have HS := Lib.hid (fun W (hb : Below w.heap.size w W) => (H.out.2.1.below hb).src (by have := H.out.1.1; omega))
    have HC : Hid ((cellsI d0).length = 256 * 1) := Lib.hid (by rw [cellsI_len]; have := H.out.1.1; omega)
    have hba := bt hb0 (alloc_below W0 (.cells #[] 3))
    have x0 : (W0.alloc (.cells #[] 3)).cell? ⟨w.heap.size, 0, none⟩ = some (.slice A0 256 c0) := (X0.out.alloc _).cell 0 rfl
    go_enter Try.func93, Try.ntmps93
    go_wp2_with fail
    rw [← HW0.out]
    refine (HRe.out _).mono ?_
    rintro e w1 ⟨rfl, rfl⟩
    go_wp2_with (first | (with_reducible refine wpList_app_fresh rfl (.tmp 17) (.tmp 19) 23 rfl 3 (.int .i64 0) 1 8 Try.underlying23 infoIx rfl (by decide) _ rfl A0 256 c0 (by omega) (cellsI d0) rfl HC.out (HS.out _ hba) (by unfold maxLen; omega) (by omega) ?_))
    intro B e w1 hb1 O1
    have hk1 := (alloc_below W0 (.cells #[] 3)).trans (hb1.mono (by omega))
    have X1 := X0.out.step hk1
    have Y1 := Y0.out.step hk1
    have S1 := ownI_fresh (lo := w.heap.size) O1.out (by omega) (by have := hb0.size; omega)
    obtain ⟨w2, hw2⟩ : ∃ w2, w2 = w1.setCell ⟨w.heap.size, 0, none⟩ (.slice B 256 e) := ⟨_, rfl⟩
    have X2 : Box w2 w.heap.size 28 #[.slice B 256 e, .slice A1 32 c1, .slice A2 256 c2, .slice A3 16 c3, .int .i64 d4] := by rw [hw2]; exact X1.set 0 _
    have Y2 : Box w2 (w.heap.size + 1) 28 #[.slice none 0 0, .slice none 0 0, .slice none 0 0, .slice none 0 0, .int .i64 0] := by rw [hw2]; exact Y1.far (p := ⟨w.heap.size, 0, none⟩) (by show w.heap.size + 1 ≠ w.heap.size; omega) _
    have S2 : OwnI w2 w.heap.size w1.heap.size B d0 := by rw [hw2]; exact S1.farB X1 (by decide) 0 _
    have hb2 : Below w.heap.size w w2 := by rw [hw2]; exact (bt hb0 hk1).setCell (Nat.le_refl _) _
    obtain ⟨ba, ma, fa, rfl, hca, hfa, hlo, hhi, hra, hput⟩ := S2.put k (by have := H.out.1.1; omega)
    have k0 := X1.cell 0 rfl
    have k0z := X1.frozen 0
    have m0 := X2.cell 0 rfl
    generalize (d0).getD k 0 = y at hca
    have X3 := X2.other hra (by decide) k (.int .i64 v)
    have Y3 := Y2.other hra (by decide) k (.int .i64 v)
    have hb3 : Below w.heap.size w (w2.setCell ⟨ba, k, none⟩ (.int .i64 v)) := hb2.setCell (p := ⟨ba, k, none⟩) hlo _
    have HR3 := Lib.hid (hput v)
    have HY3 := Lib.hid (And.intro Y3 hb3)
    have x0 := X3.cell 0 rfl
    have x1 := X3.cell 1 rfl
    have x2 := X3.cell 2 rfl
    have x3 := X3.cell 3 rfl
    have x4 := X3.cell 4 rfl
    have s0 := Y3.cell 0 rfl
    have s1 := Y3.cell 1 rfl
    have s2 := Y3.cell 2 rfl
    have s3 := Y3.cell 3 rfl
    have s4 := Y3.cell 4 rfl
    have s0z := Y3.frozen 0
    have s1z := Y3.frozen 1
    have s2z := Y3.frozen 2
    have s3z := Y3.frozen 3
    have s4z := Y3.frozen 4
    have HW2 := Lib.hid hw2
    rw [hw2] at hca hfa m0 x0 x1 x2 x3 x4 s0 s1 s2 s3 s4 s0z s1z s2z s3z s4z
    clear hw2 hk1 X1 Y1 S1 X2 Y2 S2 X3 Y3 hput hra hb3 hb2 hlo hhi O1 hba HS HC hb1
    go_wp2
    refine bodyPost_ret (v := .agg #[.slice (some ⟨ba, 0, none⟩) 256 e, .slice A1 32 c1, .slice A2 256 c2, .slice A3 16 c3, .int .i64 d4]) (by simp [results, Try.results93, go_sem, s0, s1, s2, s3, s4]) rfl ?_
    rw [← HW2.out]
    exact have f := below5 HY3.out.2 (by omega) _ _ _ _ _; ⟨_, A1, A2, A3, e, c1, c2, c3, rfl, Lib.hid ⟨(HR3.out.far5 HY3.out.1 _ _ _ _ _).reads, H.out.2.2.1.below f, H.out.2.2.2.1.below f, H.out.2.2.2.2.below f⟩, f⟩
  · obtain ⟨j, hj⟩ : ∃ j, k - 256 = j := ⟨_, rfl⟩
    rw [hj] at e2
    have hj32 : j < 32 := by omega
    by_cases hj0 : 0 < j
    · rw [show putI d1 k v = d1.set j v from by unfold putI; rw [if_pos ⟨e1, by rw [e2]; omega⟩, e2]; rfl, show putR d0 k v = d0 from by unfold putR; rw [if_neg (by rw [e1]; omega)], show putZ d2 d3 d4 k v = d2 from by unfold putZ; rw [if_neg (by rw [e1]; omega)], show putG d3 d4 k = d3 from by unfold putG; rw [if_neg (by rw [e1]; omega)], show putS d4 k v = d4 from by unfold putS; rw [if_neg (by rw [e1]; omega)]]
      rw [e1, e2] at HRe
      clear e1 e2 hj
      have hi : (j : Int) < 32 := by omega
      have hjp : (0 : Int) < (j : Int) := by omega
      have HS := Lib.hid (fun W (hb : Below w.heap.size w W) => (H.out.2.2.1.below hb).src (by have := H.out.1.2.1; omega))
      have HC : Hid ((cellsI d1).length = 32 * 1) := Lib.hid (by rw [cellsI_len]; have := H.out.1.2.1; omega)
      have hba := bt hb0 (alloc_below W0 (.cells #[] 3))
      have x1 : (W0.alloc (.cells #[] 3)).cell? ⟨w.heap.size, 1, none⟩ = some (.slice A1 32 c1) := (X0.out.alloc _).cell 1 rfl
      go_enter Try.func93, Try.ntmps93
      go_wp2_with fail
      rw [← HW0.out]
      refine (HRe.out _).mono ?_
      rintro e w1 ⟨rfl, rfl⟩
      go_wp2_with (first | (with_reducible refine wpList_app_fresh rfl (.tmp 34) (.tmp 36) 23 rfl 3 (.int .i64 0) 1 8 Try.underlying23 infoIx rfl (by decide) _ rfl A1 32 c1 (by omega) (cellsI d1) rfl HC.out (HS.out _ hba) (by unfold maxLen; omega) (by omega) ?_))
      intro B e w1 hb1 O1
      have hk1 := (alloc_below W0 (.cells #[] 3)).trans (hb1.mono (by omega))
      have X1 := X0.out.step hk1
      have Y1 := Y0.out.step hk1
      have S1 := ownI_fresh (lo := w.heap.size) O1.out (by omega) (by have := hb0.size; omega)
      obtain ⟨w2, hw2⟩ : ∃ w2, w2 = w1.setCell ⟨w.heap.size, 1, none⟩ (.slice B 32 e) := ⟨_, rfl⟩
      have X2 : Box w2 w.heap.size 28 #[.slice A0 256 c0, .slice B 32 e, .slice A2 256 c2, .slice A3 16 c3, .int .i64 d4] := by rw [hw2]; exact X1.set 1 _
      have Y2 : Box w2 (w.heap.size + 1) 28 #[.slice none 0 0, .slice none 0 0, .slice none 0 0, .slice none 0 0, .int .i64 0] := by rw [hw2]; exact Y1.far (p := ⟨w.heap.size, 1, none⟩) (by show w.heap.size + 1 ≠ w.heap.size; omega) _
      have S2 : OwnI w2 w.heap.size w1.heap.size B d1 := by rw [hw2]; exact S1.farB X1 (by decide) 1 _
      have hb2 : Below w.heap.size w w2 := by rw [hw2]; exact (bt hb0 hk1).setCell (Nat.le_refl _) _
      obtain ⟨ba, ma, fa, rfl, hca, hfa, hlo, hhi, hra, hput⟩ := S2.put j (by have := H.out.1.2.1; omega)
      have k0 := X1.cell 1 rfl
      have k0z := X1.frozen 1
      have m0 := X2.cell 1 rfl
      generalize (d1).getD j 0 = y at hca
      have X3 := X2.other hra (by decide) j (.int .i64 v)
      have Y3 := Y2.other hra (by decide) j (.int .i64 v)
      have hb3 : Below w.heap.size w (w2.setCell ⟨ba, j, none⟩ (.int .i64 v)) := hb2.setCell (p := ⟨ba, j, none⟩) hlo _
      have HR3 := Lib.hid (hput v)
      have HY3 := Lib.hid (And.intro Y3 hb3)
      have x0 := X3.cell 0 rfl
      have x1 := X3.cell 1 rfl
      have x2 := X3.cell 2 rfl
      have x3 := X3.cell 3 rfl
      have x4 := X3.cell 4 rfl
      have s0 := Y3.cell 0 rfl
      have s1 := Y3.cell 1 rfl
      have s2 := Y3.cell 2 rfl
      have s3 := Y3.cell 3 rfl
      have s4 := Y3.cell 4 rfl
      have s0z := Y3.frozen 0
      have s1z := Y3.frozen 1
      have s2z := Y3.frozen 2
      have s3z := Y3.frozen 3
      have s4z := Y3.frozen 4
      have HW2 := Lib.hid hw2
      rw [hw2] at hca hfa m0 x0 x1 x2 x3 x4 s0 s1 s2 s3 s4 s0z s1z s2z s3z s4z
      clear hw2 hk1 X1 Y1 S1 X2 Y2 S2 X3 Y3 hput hra hb3 hb2 hlo hhi O1 hba HS HC hb1
      go_wp2
      refine bodyPost_ret (v := .agg #[.slice A0 256 c0, .slice (some ⟨ba, 0, none⟩) 32 e, .slice A2 256 c2, .slice A3 16 c3, .int .i64 d4]) (by simp [results, Try.results93, go_sem, s0, s1, s2, s3, s4]) rfl ?_
      rw [← HW2.out]
      exact have f := below5 HY3.out.2 (by omega) _ _ _ _ _; ⟨A0, _, A2, A3, c0, e, c2, c3, rfl, Lib.hid ⟨H.out.2.1.below f, (HR3.out.far5 HY3.out.1 _ _ _ _ _).reads, H.out.2.2.2.1.below f, H.out.2.2.2.2.below f⟩, f⟩
    · obtain rfl : j = 0 := by omega
      rw [show putI d1 k v = d1 from by unfold putI; rw [if_neg (by rw [e2]; omega)], show putR d0 k v = d0 from by unfold putR; rw [if_neg (by rw [e1]; omega)], show putZ d2 d3 d4 k v = d2 from by unfold putZ; rw [if_neg (by rw [e1]; omega)], show putG d3 d4 k = d3 from by unfold putG; rw [if_neg (by rw [e1]; omega)], show putS d4 k v = d4 from by unfold putS; rw [if_neg (by rw [e1]; omega)]]
      rw [e1, e2] at HRe
      clear e1 e2 hj hj0
      have x0 := X0.out.cell 0 rfl
      have x1 := X0.out.cell 1 rfl
      have x2 := X0.out.cell 2 rfl
      have x3 := X0.out.cell 3 rfl
      have x4 := X0.out.cell 4 rfl
      have s0 := Y0.out.cell 0 rfl
      have s1 := Y0.out.cell 1 rfl
      have s2 := Y0.out.cell 2 rfl
      have s3 := Y0.out.cell 3 rfl
      have s4 := Y0.out.cell 4 rfl
      have s0z := Y0.out.frozen 0
      have s1z := Y0.out.frozen 1
      have s2z := Y0.out.frozen 2
      have s3z := Y0.out.frozen 3
      have s4z := Y0.out.frozen 4
      go_enter Try.func93, Try.ntmps93
      go_wp2_with fail
      rw [← HW0.out]
      refine (HRe.out _).mono ?_
      rintro e w1 ⟨rfl, rfl⟩
      go_wp2
      refine bodyPost_ret (v := .agg #[.slice A0 256 c0, .slice A1 32 c1, .slice A2 256 c2, .slice A3 16 c3, .int .i64 d4]) (by simp [results, Try.results93, go_sem, s0, s1, s2, s3, s4]) rfl ?_
      exact have f := below5 hb0 (by omega) _ _ _ _ _; ⟨A0, A1, A2, A3, c0, c1, c2, c3, rfl, Lib.hid ⟨H.out.2.1.below f, H.out.2.2.1.below f, H.out.2.2.2.1.below f, H.out.2.2.2.2.below f⟩, f⟩
  · obtain ⟨j, hj⟩ : ∃ j, k - 512 = j := ⟨_, rfl⟩
    rw [hj] at e2
    have hj32 : j < 256 := by omega
    rw [show putZ d2 d3 d4 k v = cycZ d2 d3 d4 j v from by unfold putZ; rw [if_pos e1, e2]; rfl, show putG d3 d4 k = cycG d3 d4 j from by unfold putG; rw [if_pos e1, e2]; rfl, show putS d4 k v = nextS d4 j v from by unfold putS; rw [if_pos e1, e2], show putR d0 k v = d0 from by unfold putR; rw [if_neg (by rw [e1]; omega)], show putI d1 k v = d1 from by unfold putI; rw [if_neg (by rw [e1]; omega)]]
    rw [e1, e2] at HRe
    clear e1 e2 hj
    have HM := Lib.hid (l03WriteM A2 A3 c2 c3 j v d4 d2 d3 w W0 hj32 hv HSt.out.1 HSt.out.2 ⟨⟨H.out.1.2.2.1, H.out.1.2.2.2⟩, H.out.2.2.2.1.below hb0, H.out.2.2.2.2.below hb0⟩ H.out.2.2.2.1 H.out.2.2.2.2 hb0)
    have HLn : Hid ((cycZ d2 d3 d4 j v).length = 256 ∧ (cycG d3 d4 j).length = 16) := Lib.hid ⟨by rw [cycZ_len]; exact H.out.1.2.2.1, by rw [cycG_len]; exact H.out.1.2.2.2⟩
    generalize cycZ d2 d3 d4 j v = r2 at HM HLn ⊢
    generalize cycG d3 d4 j = r3 at HM HLn ⊢
    generalize nextS d4 j v = r4 at HM ⊢
    have x2 := X0.out.cell 2 rfl
    have x3 := X0.out.cell 3 rfl
    have x4 := X0.out.cell 4 rfl
    go_enter Try.func93, Try.ntmps93
    go_wp2_with fail
    rw [← HW0.out]
    refine (HRe.out _).mono ?_
    rintro e w1 ⟨rfl, rfl⟩
    go_wp2_with fail
    refine HM.out.mono ?_
    rintro e w1 ⟨A, n, c, C, m, d, rfl, L, M, S, hb1⟩
    obtain rfl : n = 256 := by have := L.out; have := HLn.out.1; omega
    obtain rfl : m = 16 := by have := M.out; have := HLn.out.2; omega
    have X1 := X0.out.step hb1
    have Y1 := Y0.out.step hb1
    have k2 := X1.cell 2 rfl
    have k3 := X1.cell 3 rfl
    have k4 := X1.cell 4 rfl
    have k2z := X1.frozen 2
    have k3z := X1.frozen 3
    have k4z := X1.frozen 4
    have X2 := ((X1.set 2 (.slice A 256 c)).set 3 (.slice C 16 d)).set 4 (.int .i64 r4)
    have Y2 := ((Y1.far (p := ⟨w.heap.size, 2, none⟩) (by show w.heap.size + 1 ≠ w.heap.size; omega) (.slice A 256 c)).far (p := ⟨w.heap.size, 3, none⟩) (by show w.heap.size + 1 ≠ w.heap.size; omega) (.slice C 16 d)).far (p := ⟨w.heap.size, 4, none⟩) (by show w.heap.size + 1 ≠ w.heap.size; omega) (.int .i64 r4)
    have hb2 : Below w.heap.size w (((w1.setCell ⟨w.heap.size, 2, none⟩ (.slice A 256 c)).setCell ⟨w.heap.size, 3, none⟩ (.slice C 16 d)).setCell ⟨w.heap.size, 4, none⟩ (.int .i64 r4)) := (((bt hb0 hb1).setCell (p := ⟨w.heap.size, 2, none⟩) (Nat.le_refl _) _).setCell (p := ⟨w.heap.size, 3, none⟩) (Nat.le_refl _) _).setCell (p := ⟨w.heap.size, 4, none⟩) (Nat.le_refl _) _
    have HRd := Lib.hid (fun W' (f : Below w.heap.size w W') (q : ∀ (lo hi : Nat), (∀ D ds, OwnI w1 lo hi D ds → OwnI W' lo hi D ds) ∧ (∀ D ds, OwnB w1 lo hi D ds → OwnB W' lo hi D ds)) => S.out W' f q)
    have HX1 := Lib.hid X1
    have x0 := X2.cell 0 rfl
    have x1 := X2.cell 1 rfl
    have x2' := X2.cell 2 rfl
    have x3' := X2.cell 3 rfl
    have x4' := X2.cell 4 rfl
    have s0 := Y2.cell 0 rfl
    have s1 := Y2.cell 1 rfl
    have s2 := Y2.cell 2 rfl
    have s3 := Y2.cell 3 rfl
    have s4 := Y2.cell 4 rfl
    have s0z := Y2.frozen 0
    have s1z := Y2.frozen 1
    have s2z := Y2.frozen 2
    have s3z := Y2.frozen 3
    have s4z := Y2.frozen 4
    have HY2 := Lib.hid (And.intro Y2 hb2)
    clear X1 Y1 X2 Y2 hb2 hb1 S L M HM x2 x3 x4 X0 Y0
    go_wp2
    refine bodyPost_ret (v := .agg #[.slice A0 256 c0, .slice A1 32 c1, .slice A 256 c, .slice C 16 d, .int .i64 r4]) (by simp [results, Try.results93, go_sem, s0, s1, s2, s3, s4]) rfl ?_
    exact have f := below5 HY2.out.2 (by omega) _ _ _ _ _; have q := HRd.out _ f (fun lo hi => ⟨fun D ds O => (((O.farB HX1.out (by decide) 2 _).farB (HX1.out.set 2 _) (by decide) 3 _).farB ((HX1.out.set 2 _).set 3 _) (by decide) 4 _).far5 HY2.out.1 _ _ _ _ _, fun D ds O => (((O.far HX1.out (by decide) 2 _).far (HX1.out.set 2 _) (by decide) 3 _).far ((HX1.out.set 2 _).set 3 _) (by decide) 4 _).far5 HY2.out.1 _ _ _ _ _⟩); ⟨A0, A1, A, C, c0, c1, c, d, rfl, Lib.hid ⟨H.out.2.1.below f, H.out.2.2.1.below f, q.1, q.2⟩, f⟩
  · rw [show putR d0 k v = d0 from by unfold putR; rw [if_neg (by rw [e1]; omega)], show putI d1 k v = d1 from by unfold putI; rw [if_neg (by rw [e1]; omega)], show putZ d2 d3 d4 k v = d2 from by unfold putZ; rw [if_neg (by rw [e1]; omega)], show putG d3 d4 k = d3 from by unfold putG; rw [if_neg (by rw [e1]; omega)], show putS d4 k v = d4 from by unfold putS; rw [if_neg (by rw [e1]; omega)]]
    rw [e1, e2] at HRe
    clear e1 e2
    have x0 := X0.out.cell 0 rfl
    have x1 := X0.out.cell 1 rfl
    have x2 := X0.out.cell 2 rfl
    have x3 := X0.out.cell 3 rfl
    have x4 := X0.out.cell 4 rfl
    have s0 := Y0.out.cell 0 rfl
    have s1 := Y0.out.cell 1 rfl
    have s2 := Y0.out.cell 2 rfl
    have s3 := Y0.out.cell 3 rfl
    have s4 := Y0.out.cell 4 rfl
    have s0z := Y0.out.frozen 0
    have s1z := Y0.out.frozen 1
    have s2z := Y0.out.frozen 2
    have s3z := Y0.out.frozen 3
    have s4z := Y0.out.frozen 4
    go_enter Try.func93, Try.ntmps93
    go_wp2_with fail
    rw [← HW0.out]
    refine (HRe.out _).mono ?_
    rintro e w1 ⟨rfl, rfl⟩
    go_wp2
    refine bodyPost_ret (v := .agg #[.slice A0 256 c0, .slice A1 32 c1, .slice A2 256 c2, .slice A3 16 c3, .int .i64 d4]) (by simp [results, Try.results93, go_sem, s0, s1, s2, s3, s4]) rfl ?_
    exact have f := below5 hb0 (by omega) _ _ _ _ _; ⟨A0, A1, A2, A3, c0, c1, c2, c3, rfl, Lib.hid ⟨H.out.2.1.below f, H.out.2.2.1.below f, H.out.2.2.2.1.below f, H.out.2.2.2.2.below f⟩, f⟩
end
end Go.Proofs.Ytngoijchebfolaa

/- The model's l05Own; BusGet and BusPut of the model. Written by gen_memown.py. -/
namespace Go.Proofs.Ytngoijchebfolaa
open Go.RowKit

theorem wp_app_fresh {P : Program} {o : Oper} {a : Act} {w : World} {K : Act → World → Prop} {Q : Exit → Act → World → Prop}
    (s x : Operand) (t : TypeId) (hop : o.op = Op.call { callee := Callee.builtin Builtin.append, args := #[s, x], argTypes := #[t, t] })
    (e : TypeId) (z : Value) (size bytes : Nat) (ht : P.underlying t = some (.slice e)) (hi : ∃ i : TypeInfo, P.info? e = some i ∧ i.zero = some z ∧ i.size = size ∧ i.bytes = bytes) (hzs : z.cells.size = size) (hsz : 0 < size) (b : Addr) (hs : a.eval s = .slice (some b) 0 0)
    (A : Option Addr) (m c : Nat) (hm : 0 < m) (news : List Value) (hx : a.eval x = .slice A m c) (hl : news.length = m * size) (hsrc : ∃ ad, A = some ad ∧ ∀ j u, news[j]? = some u → w.cell? (ad.add j) = some u)
    (h63 : m ≤ maxLen) (hbytes : m * bytes ≤ 140737488355328)
    (h : ∀ A' cap w', Below w.heap.size w w' → Hid (w'.ownsRow w.heap.size e size (.slice A' m cap) m news) → K (a.put o.dst (.slice A' m cap)) w') : Oper.wp P o a w K Q := by
  obtain ⟨i, hi, hz, hsize, hby⟩ := hi
  obtain ⟨A', cap, w', hr, h2, h3⟩ := run_app_fresh (P := P) w t o.type e i z size bytes ht hi hz hsize hby hzs hsz b A m c hm news hl hsrc h63 hbytes
  unfold Oper.wp execOp
  simp only [hop, resolve, invoke, builtin, Sem.run_bind, Sem.run_pure, Result.andThen_ok, List.map_toArray, List.map_cons, List.map_nil, hs, hx, hr]
  exact h A' cap w' h2 (Lib.hid h3)

theorem arr15 (T : Array Value) (h : T.size = 15) : ∃ t0 t1 t2 t3 t4 t5 t6 t7 t8 t9 t10 t11 t12 t13 t14 : Value, T = #[t0, t1, t2, t3, t4, t5, t6, t7, t8, t9, t10, t11, t12, t13, t14] := by
  obtain ⟨l⟩ := T
  match l, h with
  | [t0, t1, t2, t3, t4, t5, t6, t7, t8, t9, t10, t11, t12, t13, t14], _ => exact ⟨t0, t1, t2, t3, t4, t5, t6, t7, t8, t9, t10, t11, t12, t13, t14, rfl⟩

/-- A memory of the call's own, of a valid memory's lengths. -/
def GivesMem (r i zs : List Int) (gs : List Bool) (st : Int) (w : World) (e : Ending) (w' : World) : Prop :=
  ∃ A0 A1 A2 A3 c0 c1 c2 c3, e = .returned (.agg #[.slice A0 256 c0, .slice A1 32 c1, .slice A2 256 c2, .slice A3 16 c3, .int .i64 st]) ∧ Hid (OwnA w' w.heap.size w'.heap.size [.slice A0 256 c0, .slice A1 32 c1, .slice A2 256 c2, .slice A3 16 c3] [.I r, .I i, .I zs, .B gs]) ∧ Below w.heap.size w w'
def ownF (M : Nat) (s0 s1 fl : Value) (d0 d1 d2 : List Int) (d3 : List Bool) (st : Int) : Nat → (Nat → Value) → World → Prop
  | 0, t, _ => ∃ b, t 3 = .slice (some b) 0 0
  | 1, t, _ => t 4 = .pointer (some ⟨M, 0, none⟩)
  | 2, t, _ => t 5 = s0
  | 3, t, w => ∃ A c, t 6 = .slice A 256 c ∧ OwnI w M w.heap.size A d0
  | 4, t, _ => ∃ b, t 7 = .slice (some b) 0 0
  | 5, t, _ => t 8 = .pointer (some ⟨M, 1, none⟩)
  | 6, t, _ => t 9 = s1
  | 7, t, w => ∃ g A c A' c', t 6 = .slice A 256 c ∧ t 10 = .slice A' 32 c' ∧ OwnI w M g A d0 ∧ OwnI w g w.heap.size A' d1 ∧ M ≤ g ∧ g ≤ w.heap.size
  | 8, t, _ => t 11 = .pointer (some ⟨M, 2, none⟩)
  | 9, t, _ => t 12 = fl
  | 10, t, w => ∃ g h A c A' c' B e C f, t 6 = .slice A 256 c ∧ t 10 = .slice A' 32 c' ∧ t 13 = .agg #[.slice B 256 e, .slice C 16 f, .int .i64 st] ∧ OwnI w M g A d0 ∧ OwnI w g h A' d1 ∧ OwnI w h w.heap.size B d2 ∧ OwnB w h w.heap.size C d3 ∧ M ≤ g ∧ g ≤ h ∧ h ≤ w.heap.size
  | 11, t, _ => ∃ A c A' c' B e C f, t 6 = .slice A 256 c ∧ t 10 = .slice A' 32 c' ∧ t 13 = .agg #[.slice B 256 e, .slice C 16 f, .int .i64 st] ∧ t 14 = .agg #[.slice A 256 c, .slice A' 32 c', .slice B 256 e, .slice C 16 f, .int .i64 st]
  | 12, t, w => ∃ A c A' c' B e C f, t 6 = .slice A 256 c ∧ t 10 = .slice A' 32 c' ∧ t 13 = .agg #[.slice B 256 e, .slice C 16 f, .int .i64 st] ∧ Box w (M + 1) 28 #[.slice A 256 c, .slice A' 32 c', .slice B 256 e, .slice C 16 f, .int .i64 st]
  | _, _, _ => True
section
variable {M : Nat} {s0 s1 fl : Value} {d0 d1 d2 : List Int} {d3 : List Bool} {st : Int} {w w' : World}
theorem ownF_below (k : Below w.heap.size w w') : ∀ (j : Nat) (t : Nat → Value), ownF M s0 s1 fl d0 d1 d2 d3 st j t w → ownF M s0 s1 fl d0 d1 d2 d3 st j t w'
  | 0, _, h | 1, _, h | 2, _, h | 4, _, h | 5, _, h | 6, _, h | 8, _, h | 9, _, h | 11, _, h => h
  | 3, _, ⟨A, c, e, h⟩ => ⟨A, c, e, (h.below k).wideB (Nat.le_refl _) k.size⟩
  | 7, _, ⟨g, A, c, A', c', e, e2, h, h2, q, q2⟩ => ⟨g, A, c, A', c', e, e2, h.below k, (h2.below k).wideB (Nat.le_refl _) k.size, q, Nat.le_trans q2 k.size⟩
  | 10, _, ⟨g, h, A, c, A', c', B, e, C, f, e1, e2, e3, h1, h2, h3, h4, q, q2, q3⟩ => ⟨g, h, A, c, A', c', B, e, C, f, e1, e2, e3, h1.below k, h2.below k, (h3.below k).wideB (Nat.le_refl _) k.size, (h4.below k).wide (Nat.le_refl _) k.size, q, q2, Nat.le_trans q3 k.size⟩
  | 12, _, ⟨A, c, A', c', B, e, C, f, e1, e2, e3, h⟩ => ⟨A, c, A', c', B, e, C, f, e1, e2, e3, h.step k⟩
  | _ + 13, _, _ => trivial
theorem ownF_store {ys : Array Value} (Y : Box w (M + 1) 28 ys) (i : Nat) (u : Value) : ∀ (j : Nat) (t : Nat → Value), j ≠ 12 → ownF M s0 s1 fl d0 d1 d2 d3 st j t w → ownF M s0 s1 fl d0 d1 d2 d3 st j t (w.setCell ⟨M + 1, i, none⟩ u)
  | 0, _, _, h | 1, _, _, h | 2, _, _, h | 4, _, _, h | 5, _, _, h | 6, _, _, h | 8, _, _, h | 9, _, _, h | 11, _, _, h => h
  | 3, _, _, ⟨A, c, e, h⟩ => ⟨A, c, e, (h.farB Y (by decide) i u).wideB (Nat.le_refl _) (by simp [World.setCell])⟩
  | 7, _, _, ⟨g, A, c, A', c', e, e2, h, h2, q, q2⟩ => ⟨g, A, c, A', c', e, e2, h.farB Y (by decide) i u, (h2.farB Y (by decide) i u).wideB (Nat.le_refl _) (by simp [World.setCell]), q, by simpa [World.setCell] using q2⟩
  | 10, _, _, ⟨g, h, A, c, A', c', B, e, C, f, e1, e2, e3, h1, h2, h3, h4, q, q2, q3⟩ => ⟨g, h, A, c, A', c', B, e, C, f, e1, e2, e3, h1.farB Y (by decide) i u, h2.farB Y (by decide) i u, (h3.farB Y (by decide) i u).wideB (Nat.le_refl _) (by simp [World.setCell]), (h4.far Y (by decide) i u).wide (Nat.le_refl _) (by simp [World.setCell]), q, q2, by simpa [World.setCell] using q3⟩
  | 12, _, n, _ => (n rfl).elim
  | _ + 13, _, _, _ => trivial
end

section
variable (A0 A1 A2 A3 : Option Addr) (c0 c1 c2 c3 : Nat) (d0 d1 d2 : List Int) (d3 : List Bool) (d4 : Int) (w : World)
set_option maxRecDepth 100000 in
set_option maxHeartbeats 8000000 in
theorem l05Own (l0 : d0.length = 256) (l1 : d1.length = 32) (l2 : d2.length = 256) (l3 : d3.length = 16) (h0 : IntL w A0 d0) (h1 : IntL w A1 d1) (h2 : IntL w A2 d2) (h3 : BoolL w A3 d3) :
    Calls Try.prog 53 #[.agg #[.slice A0 256 c0, .slice A1 32 c1, .slice A2 256 c2, .slice A3 16 c3, .int .i64 d4]] w (GivesMem d0 d1 d2 d3 d4 w) := by
  obtain ⟨W0, hW0⟩ : ∃ W0, W0 = ((w.alloc (.cells #[.slice A0 256 c0, .slice A1 32 c1, .slice A2 256 c2, .slice A3 16 c3, .int .i64 d4] 28)).alloc (.cells #[.slice none 0 0, .slice none 0 0, .slice none 0 0, .slice none 0 0, .int .i64 0] 28)) := ⟨_, rfl⟩
  have hb0 : Below w.heap.size w W0 := by rw [hW0]; exact bt (alloc_below _ _) (alloc_below _ _)
  have X0 : Box W0 w.heap.size 28 #[.slice A0 256 c0, .slice A1 32 c1, .slice A2 256 c2, .slice A3 16 c3, .int .i64 d4] := by rw [hW0]; exact (Box.new _ _ _).alloc _
  have Y0 : Box W0 (w.heap.size + 1) 28 #[.slice none 0 0, .slice none 0 0, .slice none 0 0, .slice none 0 0, .int .i64 0] := by rw [hW0]; simpa using Box.new (w.alloc (.cells #[.slice A0 256 c0, .slice A1 32 c1, .slice A2 256 c2, .slice A3 16 c3, .int .i64 d4] 28)) 28 #[.slice none 0 0, .slice none 0 0, .slice none 0 0, .slice none 0 0, .int .i64 0]
  have HB : Hid (∀ W, RM W0 w.heap.size W → Below w.heap.size w W) := Lib.hid (fun W r => hb0.trans (r.1.mono (by omega)))
  have HO := Lib.hid (fun W (r : RM W0 w.heap.size W) => l03Own A2 A3 256 c2 16 c3 d4 d2 d3 W l2 l3 rfl rfl (h2.below (HB.out _ r)) (h3.below (HB.out _ r)))
  have HS0 := Lib.hid (fun W (r : RM W0 w.heap.size W) => (h0.below (HB.out _ r)).src (by omega))
  have HS1 := Lib.hid (fun W (r : RM W0 w.heap.size W) => (h1.below (HB.out _ r)).src (by omega))
  have HN0 : Hid ((cellsI d0).length = 256 * 1) := Lib.hid (by rw [cellsI_len]; omega)
  have HN1 : Hid ((cellsI d1).length = 32 * 1) := Lib.hid (by rw [cellsI_len]; omega)
  have HL := Lib.hid (And.intro l2 l3)
  have HL0 := Lib.hid (And.intro l0 l1)
  have HK : Hid (∀ W', RM W0 w.heap.size W' → W'.cell? ⟨w.heap.size, 0, none⟩ = some (.slice A0 256 c0) ∧ W'.cell? ⟨w.heap.size, 1, none⟩ = some (.slice A1 32 c1) ∧ W'.cell? ⟨w.heap.size, 2, none⟩ = some (.slice A2 256 c2) ∧ W'.cell? ⟨w.heap.size, 3, none⟩ = some (.slice A3 16 c3) ∧ W'.cell? ⟨w.heap.size, 4, none⟩ = some (.int .i64 d4)) := Lib.hid (fun W' r => by
    have X := X0.below r.1 (by omega)
    exact ⟨X.cell 0 rfl, X.cell 1 rfl, X.cell 2 rfl, X.cell 3 rfl, X.cell 4 rfl⟩)
  have HW0 := Lib.hid hW0
  have R0 : RM W0 w.heap.size W0.drew := ⟨(Below.refl _ _).drew, Nat.le_refl _, _, rfl, Y0⟩
  clear l0 l1 l2 l3 h0 h1 h2 h3 X0 Y0 hW0 hb0
  go_enter Try.func53, Try.ntmps53
  go_wp2
  rw [← HW0.out]
  refine wp_region_facts (by kernel_rfl) [[3], [4], [5], [6], [7], [8], [9], [6, 10], [11], [12], [6, 10, 13], [6, 10, 13, 14], [6, 10, 13]] [[], [], [1], [0, 1, 2], [], [], [5], [4, 5, 6, 3, 0, 1, 2], [], [8], [8, 9, 7, 4, 5, 6, 3, 0, 1, 2], [10, 8, 9, 7, 4, 5, 6, 3, 0, 1, 2], [0, 1, 2, 3, 4, 5, 6, 7, 8, 9, 10, 11]] [0, 1, 2] (by kernel_rfl) (RM W0 w.heap.size) (ownF w.heap.size (.slice A0 256 c0) (.slice A1 32 c1) (.agg #[.slice A2 256 c2, .slice A3 16 c3, .int .i64 d4]) d0 d1 d2 d3 d4) R0 ?_ ?_
  · refine ⟨?_, ?_, ?_, ?_, ?_, ?_, ?_, ?_, ?_, ?_, ?_, ?_, ?_, trivial⟩
    · intro T W hT hs hC hF K hK
      obtain ⟨t0, t1, t2, t3, t4, t5, t6, t7, t8, t9, t10, t11, t12, t13, t14, rfl⟩ := arr15 T hT
      obtain rfl : t1 = .pointer (some ⟨w.heap.size, 0, none⟩) := hs 1 (by decide)
      obtain rfl : t2 = .pointer (some ⟨w.heap.size + 1, 0, none⟩) := hs 2 (by decide)
      clear hF hs hT
      have k := alloc_below W (.cells #[] 3)
      go_simp
      exact hK.out _ _ (hC.alloc _) (fun j t _ h => ownF_below k j t h) ⟨_, rfl⟩
    · intro T W hT hs hC hF K hK
      obtain ⟨t0, t1, t2, t3, t4, t5, t6, t7, t8, t9, t10, t11, t12, t13, t14, rfl⟩ := arr15 T hT
      obtain rfl : t1 = .pointer (some ⟨w.heap.size, 0, none⟩) := hs 1 (by decide)
      obtain rfl : t2 = .pointer (some ⟨w.heap.size + 1, 0, none⟩) := hs 2 (by decide)
      clear hF hs hT
      go_simp
      exact hK.out _ W hC (fun _ _ _ h => h) rfl
    · intro T W hT hs hC hF K hK
      obtain ⟨t0, t1, t2, t3, t4, t5, t6, t7, t8, t9, t10, t11, t12, t13, t14, rfl⟩ := arr15 T hT
      obtain rfl : t1 = .pointer (some ⟨w.heap.size, 0, none⟩) := hs 1 (by decide)
      obtain rfl : t2 = .pointer (some ⟨w.heap.size + 1, 0, none⟩) := hs 2 (by decide)
      have f1 := hF 1 (by decide)
      simp only [ownF, mask] at f1
      clear hF hs hT
      subst f1
      have k := (HK.out W hC).1
      go_simp
      exact hK.out _ W hC (fun _ _ _ h => h) rfl
    · intro T W hT hs hC hF K hK
      obtain ⟨t0, t1, t2, t3, t4, t5, t6, t7, t8, t9, t10, t11, t12, t13, t14, rfl⟩ := arr15 T hT
      obtain rfl : t1 = .pointer (some ⟨w.heap.size, 0, none⟩) := hs 1 (by decide)
      obtain rfl : t2 = .pointer (some ⟨w.heap.size + 1, 0, none⟩) := hs 2 (by decide)
      have f0 := hF 0 (by decide)
      simp only [ownF, mask] at f0
      have f2 := hF 2 (by decide)
      simp only [ownF, mask] at f2
      clear hF hs hT
      obtain ⟨b, e3⟩ := f0
      subst e3 f2
      refine wp_app_fresh (.tmp 3) (.tmp 5) 23 rfl 3 (.int .i64 0) 1 8 Try.underlying23 infoIx rfl (by decide) b rfl A0 256 c0 (by omega) (cellsI d0) rfl HN0.out (HS0.out _ hC) (by unfold maxLen; omega) (by omega) ?_
      intro A c w1 k O
      exact hK.out _ w1 (hC.step k) (fun j t _ h => ownF_below k j t h) ⟨A, c, rfl, ownI_fresh O.out (by omega) (HB.out _ hC).size⟩
    · intro T W hT hs hC hF K hK
      obtain ⟨t0, t1, t2, t3, t4, t5, t6, t7, t8, t9, t10, t11, t12, t13, t14, rfl⟩ := arr15 T hT
      obtain rfl : t1 = .pointer (some ⟨w.heap.size, 0, none⟩) := hs 1 (by decide)
      obtain rfl : t2 = .pointer (some ⟨w.heap.size + 1, 0, none⟩) := hs 2 (by decide)
      clear hF hs hT
      have k := alloc_below W (.cells #[] 3)
      go_simp
      exact hK.out _ _ (hC.alloc _) (fun j t _ h => ownF_below k j t h) ⟨_, rfl⟩
    · intro T W hT hs hC hF K hK
      obtain ⟨t0, t1, t2, t3, t4, t5, t6, t7, t8, t9, t10, t11, t12, t13, t14, rfl⟩ := arr15 T hT
      obtain rfl : t1 = .pointer (some ⟨w.heap.size, 0, none⟩) := hs 1 (by decide)
      obtain rfl : t2 = .pointer (some ⟨w.heap.size + 1, 0, none⟩) := hs 2 (by decide)
      clear hF hs hT
      go_simp
      exact hK.out _ W hC (fun _ _ _ h => h) rfl
    · intro T W hT hs hC hF K hK
      obtain ⟨t0, t1, t2, t3, t4, t5, t6, t7, t8, t9, t10, t11, t12, t13, t14, rfl⟩ := arr15 T hT
      obtain rfl : t1 = .pointer (some ⟨w.heap.size, 0, none⟩) := hs 1 (by decide)
      obtain rfl : t2 = .pointer (some ⟨w.heap.size + 1, 0, none⟩) := hs 2 (by decide)
      have f5 := hF 5 (by decide)
      simp only [ownF, mask] at f5
      clear hF hs hT
      subst f5
      have k := (HK.out W hC).2.1
      go_simp
      exact hK.out _ W hC (fun _ _ _ h => h) rfl
    · intro T W hT hs hC hF K hK
      obtain ⟨t0, t1, t2, t3, t4, t5, t6, t7, t8, t9, t10, t11, t12, t13, t14, rfl⟩ := arr15 T hT
      obtain rfl : t1 = .pointer (some ⟨w.heap.size, 0, none⟩) := hs 1 (by decide)
      obtain rfl : t2 = .pointer (some ⟨w.heap.size + 1, 0, none⟩) := hs 2 (by decide)
      have f4 := hF 4 (by decide)
      simp only [ownF, mask] at f4
      have f6 := hF 6 (by decide)
      simp only [ownF, mask] at f6
      have f3 := hF 3 (by decide)
      simp only [ownF, mask] at f3
      clear hF hs hT
      obtain ⟨b, e3⟩ := f4
      obtain ⟨A, c, e6, O6⟩ := f3
      subst e3 f6 e6
      have H6 := Lib.hid O6
      clear O6
      refine wp_app_fresh (.tmp 7) (.tmp 9) 23 rfl 3 (.int .i64 0) 1 8 Try.underlying23 infoIx rfl (by decide) b rfl A1 32 c1 (by omega) (cellsI d1) rfl HN1.out (HS1.out _ hC) (by unfold maxLen; omega) (by omega) ?_
      intro A' c' w1 k O
      exact hK.out _ w1 (hC.step k) (fun j t _ h => ownF_below k j t h) ⟨W.heap.size, A, c, A', c', rfl, rfl, H6.out.below k, ownI_fresh O.out (by omega) (Nat.le_refl _), (HB.out _ hC).size, k.size⟩
    · intro T W hT hs hC hF K hK
      obtain ⟨t0, t1, t2, t3, t4, t5, t6, t7, t8, t9, t10, t11, t12, t13, t14, rfl⟩ := arr15 T hT
      obtain rfl : t1 = .pointer (some ⟨w.heap.size, 0, none⟩) := hs 1 (by decide)
      obtain rfl : t2 = .pointer (some ⟨w.heap.size + 1, 0, none⟩) := hs 2 (by decide)
      clear hF hs hT
      go_simp
      exact hK.out _ W hC (fun _ _ _ h => h) rfl
    · intro T W hT hs hC hF K hK
      obtain ⟨t0, t1, t2, t3, t4, t5, t6, t7, t8, t9, t10, t11, t12, t13, t14, rfl⟩ := arr15 T hT
      obtain rfl : t1 = .pointer (some ⟨w.heap.size, 0, none⟩) := hs 1 (by decide)
      obtain rfl : t2 = .pointer (some ⟨w.heap.size + 1, 0, none⟩) := hs 2 (by decide)
      have f8 := hF 8 (by decide)
      simp only [ownF, mask] at f8
      clear hF hs hT
      subst f8
      have k2 := (HK.out W hC).2.2.1
      have k3 := (HK.out W hC).2.2.2.1
      have k4 := (HK.out W hC).2.2.2.2
      go_simp
      exact hK.out _ W hC (fun _ _ _ h => h) rfl
    · intro T W hT hs hC hF K hK
      obtain ⟨t0, t1, t2, t3, t4, t5, t6, t7, t8, t9, t10, t11, t12, t13, t14, rfl⟩ := arr15 T hT
      obtain rfl : t1 = .pointer (some ⟨w.heap.size, 0, none⟩) := hs 1 (by decide)
      obtain rfl : t2 = .pointer (some ⟨w.heap.size + 1, 0, none⟩) := hs 2 (by decide)
      have f9 := hF 9 (by decide)
      simp only [ownF, mask] at f9
      have f7 := hF 7 (by decide)
      simp only [ownF, mask] at f7
      clear hF hs hT
      obtain ⟨g, A, c, A', c', e6, e10, O6, O10, q, q2⟩ := f7
      subst f9 e6 e10
      have H6 := Lib.hid (And.intro O6 O10)
      clear O6 O10
      go_simp
      refine (HO.out W hC).mono ?_
      rintro e w1 ⟨B, n, c', C, m, d, rfl, L, M, S, Q, k⟩
      obtain rfl : n = 256 := by have := L.out; have := HL.out.1; omega
      obtain rfl : m = 16 := by have := M.out; have := HL.out.2; omega
      exact hK.out _ w1 (hC.step k) (fun j t _ h => ownF_below k j t h) ⟨g, W.heap.size, A, _, A', _, B, _, C, _, rfl, rfl, rfl, H6.out.1.below k, H6.out.2.below k, S.out, Q.out, q, q2, k.size⟩
    · intro T W hT hs hC hF K hK
      obtain ⟨t0, t1, t2, t3, t4, t5, t6, t7, t8, t9, t10, t11, t12, t13, t14, rfl⟩ := arr15 T hT
      obtain rfl : t1 = .pointer (some ⟨w.heap.size, 0, none⟩) := hs 1 (by decide)
      obtain rfl : t2 = .pointer (some ⟨w.heap.size + 1, 0, none⟩) := hs 2 (by decide)
      have f10 := hF 10 (by decide)
      simp only [ownF, mask] at f10
      clear hF hs hT
      obtain ⟨g, h, A, c, A', c', B, e, C, f, e6, e10, e13, O6, O10, S, Q, q, q2, q3⟩ := f10
      subst e6 e10 e13
      clear O6 O10 S Q
      go_simp
      exact hK.out _ W hC (fun _ _ _ h => h) ⟨_, _, _, _, _, _, _, _, rfl, rfl, rfl, rfl⟩
    · intro T W hT hs hC hF K hK
      obtain ⟨t0, t1, t2, t3, t4, t5, t6, t7, t8, t9, t10, t11, t12, t13, t14, rfl⟩ := arr15 T hT
      obtain rfl : t1 = .pointer (some ⟨w.heap.size, 0, none⟩) := hs 1 (by decide)
      obtain rfl : t2 = .pointer (some ⟨w.heap.size + 1, 0, none⟩) := hs 2 (by decide)
      have f11 := hF 11 (by decide)
      simp only [ownF, mask] at f11
      clear hF hs hT
      obtain ⟨A, c, A', c', B, e, C, f, e6, e10, e13, e14⟩ := f11
      subst e6 e10 e13 e14
      obtain ⟨hCa, hCb, ys, hys, Y⟩ := hC
      have y0 := YV5.of Y hys 0 (by omega)
      have y1 := YV5.of Y hys 1 (by omega)
      have y2 := YV5.of Y hys 2 (by omega)
      have y3 := YV5.of Y hys 3 (by omega)
      have y4 := YV5.of Y hys 4 (by omega)
      have z0 := Y.frozen 0
      have z1 := Y.frozen 1
      have z2 := Y.frozen 2
      have z3 := Y.frozen 3
      have z4 := Y.frozen 4
      have HYs := Lib.hid (And.intro hys Y)
      have hC : RM W0 w.heap.size W := ⟨hCa, hCb, ys, hys, Y⟩
      clear hys Y hCa hCb
      go_simp
      exact hK.out undef _ (((((hC.set 0 _).set 1 _).set 2 _).set 3 _).set 4 _) (fun j t n h => ownF_store ((((HYs.out.2.set 0 _).set 1 _).set 2 _).set 3 _) 4 _ j t n (ownF_store (((HYs.out.2.set 0 _).set 1 _).set 2 _) 3 _ j t n (ownF_store ((HYs.out.2.set 0 _).set 1 _) 2 _ j t n (ownF_store (HYs.out.2.set 0 _) 1 _ j t n (ownF_store HYs.out.2 0 _ j t n h))))) ⟨_, _, _, _, _, _, _, _, rfl, rfl, rfl, HYs.out.2.all5 HYs.out.1 _ _ _ _ _⟩
  · intro T W hT hs hC hF
    obtain ⟨t0, t1, t2, t3, t4, t5, t6, t7, t8, t9, t10, t11, t12, t13, t14, rfl⟩ := arr15 T hT
    obtain rfl : t1 = .pointer (some ⟨w.heap.size, 0, none⟩) := hs 1 (by decide)
    obtain rfl : t2 = .pointer (some ⟨w.heap.size + 1, 0, none⟩) := hs 2 (by decide)
    obtain ⟨g, h, A, c, A', c', B, e, C, f, e6, e10, e13, O6, O10, S, Q, q, q2, q3⟩ := hF 10 (by decide)
    obtain ⟨x1, x2, x3, x4, x5, x6, x7, x8, f6, f10, f13, Y⟩ := hF 12 (by decide)
    have E1 : Value.slice A 256 c = .slice x1 256 x2 := (show t6 = _ from e6).symm.trans f6
    have E2 : Value.slice A' 32 c' = .slice x3 32 x4 := (show t10 = _ from e10).symm.trans f10
    have E3 : Value.agg #[.slice B 256 e, .slice C 16 f, .int .i64 d4] = .agg #[.slice x5 256 x6, .slice x7 16 x8, .int .i64 d4] := (show t13 = _ from e13).symm.trans f13
    simp only [Value.agg.injEq, Array.mk.injEq, List.cons.injEq, Value.slice.injEq, true_and, and_true] at E1 E2 E3
    obtain ⟨r1, r2⟩ := E1
    obtain ⟨r3, r4⟩ := E2
    obtain ⟨⟨r5, r6⟩, r7, r8⟩ := E3
    subst r1 r2 r3 r4 r5 r6 r7 r8
    have y0 := Y.cell 0 rfl
    have y1 := Y.cell 1 rfl
    have y2 := Y.cell 2 rfl
    have y3 := Y.cell 3 rfl
    have y4 := Y.cell 4 rfl
    have HR : Hid (OwnA W w.heap.size W.heap.size [.slice A 256 c, .slice A' 32 c', .slice B 256 e, .slice C 16 f] [.I d0, .I d1, .I d2, .B d3]) := Lib.hid (by
      have := ownA4 (c0 := c) (c1 := c') (c2 := e) (c3 := f) (L := w.heap.size) (R := W.heap.size) O6 O10 S Q (Nat.le_refl _) q q2 q3 (Nat.le_refl _)
      rwa [HL0.out.1, HL0.out.2, HL.out.1, HL.out.2] at this)
    have HBw := Lib.hid (HB.out _ hC)
    clear e6 e10 e13 f6 f10 f13 O6 O10 S Q Y hF hs hT hC R0
    go_wp2
    refine bodyPost_ret (v := .agg #[.slice A 256 c, .slice A' 32 c', .slice B 256 e, .slice C 16 f, .int .i64 d4]) (by simp [results, Try.results53, go_sem, y0, y1, y2, y3, y4]) rfl ?_
    exact ⟨A, A', B, C, c, c', e, f, rfl, HR, HBw.out⟩
end

section
variable (A0 A1 A2 A3 : Option Addr) (n0 n1 n2 n3 c0 c1 c2 c3 : Nat) (d0 d1 d2 : List Int) (d3 : List Bool) (d4 : Int) (w : World)
theorem putF_bad (r i zs : List Int) (gs : List Bool) (st a v : Int) (h : okMem r i zs gs st = false) : putF r i zs gs st a v = ([], [], [], [], 0, 1) := by unfold putF codeIf; rw [h]; rfl
theorem putF_range (r i zs : List Int) (gs : List Bool) (st a v : Int) (h : okMem r i zs gs st = true) (h2 : (adB a && byB v) = false) : putF r i zs gs st a v = ([], [], [], [], 0, 4) := by unfold putF codeIf; rw [h, h2]; rfl
theorem putF_ok (r i zs : List Int) (gs : List Bool) (st a v : Int) (h : okMem r i zs gs st = true) (h2 : adB a = true) (h3 : byB v = true) : putF r i zs gs st a v = (putR r a v, putI i a v, putZ zs gs st a v, putG gs st a, putS st a v, 0) := by unfold putF codeIf; rw [h, h2, h3]; rfl
theorem OwnA.far5 {w : World} {lo hi : Nat} {B0 B1 B2 B3 : Option Addr} {m0 m1 m2 m3 e0 e1 e2 e3 : Nat} {r0 r1 r2 : List Int} {r3 : List Bool} (h : OwnA w lo hi [.slice B0 m0 e0, .slice B1 m1 e1, .slice B2 m2 e2, .slice B3 m3 e3] [.I r0, .I r1, .I r2, .B r3]) {b : Nat} {cs : Array Value} (X : Box w b 28 cs) (u0 u1 u2 u3 u4 : Value) : OwnA (((((w.setCell ⟨b, 0, none⟩ u0).setCell ⟨b, 1, none⟩ u1).setCell ⟨b, 2, none⟩ u2).setCell ⟨b, 3, none⟩ u3).setCell ⟨b, 4, none⟩ u4) lo hi [.slice B0 m0 e0, .slice B1 m1 e1, .slice B2 m2 e2, .slice B3 m3 e3] [.I r0, .I r1, .I r2, .B r3] := by
  obtain ⟨⟨⟨a0, b0, q0, o0⟩, ⟨a1, b1, q1, o1⟩, ⟨a2, b2, q2, o2⟩, ⟨a3, b3, q3, o3⟩, -⟩, hn⟩ := h
  exact ⟨⟨⟨a0, b0, q0, o0.far5 X _ _ _ _ _⟩, ⟨a1, b1, q1, o1.far5 X _ _ _ _ _⟩, ⟨a2, b2, q2, o2.far5 X _ _ _ _ _⟩, ⟨a3, b3, q3, o3.far5 X _ _ _ _ _⟩, trivial⟩, hn⟩

end
end Go.Proofs.Ytngoijchebfolaa

/- The model's processor: its own registers, a register, pushing. Written by gen_cpuspec.py. -/
namespace Go.Proofs.Ytngoijchebfolaa
open Go.RowKit

set_option maxRecDepth 100000 in
theorem infoCpu9 : (Try.prog.info? 50).map (·.size) = some 9 := by kernel_rfl
theorem one9 {a b c d : Int} {e f g h : Bool} {A : Option Addr} {n k : Nat} : (#[.int .i64 a, .int .i64 b, .int .i64 c, .int .i64 d, .bool e, .bool f, .bool g, .bool h, .slice A n k] : Array Value).all (·.oneCell') = true := by simp [Value.oneCell']
theorem one5 {A0 A1 A2 A3 : Option Addr} {n0 n1 n2 n3 k0 k1 k2 k3 : Nat} {s : Int} : (#[.slice A0 n0 k0, .slice A1 n1 k1, .slice A2 n2 k2, .slice A3 n3 k3, .int .i64 s] : Array Value).all (·.oneCell') = true := by simp [Value.oneCell']
set_option maxRecDepth 100000 in
theorem infoMem5 : (Try.prog.info? 28).map (·.size) = some 5 := by kernel_rfl
def ReadsM (m : MD) (w : World) (e : Ending) (w' : World) : Prop :=
  ∃ A0 A1 A2 A3 c0 c1 c2 c3, e = .returned (.agg #[.slice A0 256 c0, .slice A1 32 c1, .slice A2 256 c2, .slice A3 16 c3, .int .i64 m.s]) ∧ Hid (RepM w' A0 A1 A2 A3 m) ∧ Below w.heap.size w w'
set_option maxRecDepth 100000 in
theorem l05PutM (A0 A1 A2 A3 : Option Addr) (c0 c1 c2 c3 : Nat) (m : MD) (w : World) (a v : Int) (h0 : 0 ≤ a) (h1 : a ≤ 4095) (hv0 : 0 ≤ v) (hv1 : v ≤ 255) (hm : RepM w A0 A1 A2 A3 m) :
    Calls Try.prog 93 #[.agg #[.slice A0 256 c0, .slice A1 32 c1, .slice A2 256 c2, .slice A3 16 c3, .int .i64 m.s], .int .i64 a, .int .i64 v] w (ReadsM (m.put a v) w) := by
  obtain ⟨k, rfl⟩ : ∃ k : Nat, a = k := ⟨a.toNat, by omega⟩
  obtain ⟨u, rfl⟩ : ∃ u : Nat, v = u := ⟨v.toNat, by omega⟩
  refine (l05Put A0 A1 A2 A3 c0 c1 c2 c3 m.r m.i m.z m.g m.s w k u (by omega) (by omega) hm.1.r hm.1.i hm.1.z hm.1.g hm.1.s hm.1.zb hm.2.1 hm.2.2.1 hm.2.2.2.1 hm.2.2.2.2).mono ?_
  rintro e w' ⟨B0, B1, B2, B3, e0, e1, e2, e3, rfl, N, hb⟩
  exact ⟨B0, B1, B2, B3, e0, e1, e2, e3, rfl, Lib.hid ⟨hm.1.put (by omega) (by omega) (by omega), N.out⟩, hb⟩
set_option maxRecDepth 100000 in
theorem l05GetM (A0 A1 A2 A3 : Option Addr) (c0 c1 c2 c3 : Nat) (m : MD) (w : World) (a : Int) (h0 : 0 ≤ a) (h1 : a ≤ 4095) (hm : RepM w A0 A1 A2 A3 m) :
    Calls Try.prog 94 #[.agg #[.slice A0 256 c0, .slice A1 32 c1, .slice A2 256 c2, .slice A3 16 c3, .int .i64 m.s], .int .i64 a] w fun e w' => e = .returned (.int .i64 (m.get a)) ∧ Below w.heap.size w w' := by
  obtain ⟨k, rfl⟩ : ∃ k : Nat, a = k := ⟨a.toNat, by omega⟩
  exact l05Get A0 A1 A2 A3 c0 c1 c2 c3 m.r m.i m.z m.g m.s w k (by omega) hm.1.r hm.1.i hm.1.z hm.1.g hm.2.1 hm.2.2.1 hm.2.2.2.1 hm.2.2.2.2
def ReadsCM (d : CD) (m : MD) (w : World) (e : Ending) (w' : World) : Prop :=
  ∃ A c A0 A1 A2 A3 c0 c1 c2 c3, e = .returned (.tuple #[.agg #[.int .i64 d.pc, .int .i64 d.sp, .int .i64 d.bank, .int .i64 d.level, .bool d.zero, .bool d.carry, .bool d.on, .bool d.halt, .slice A 16 c], .agg #[.slice A0 256 c0, .slice A1 32 c1, .slice A2 256 c2, .slice A3 16 c3, .int .i64 m.s]]) ∧ Hid (RepC w' A d) ∧ Hid (RepM w' A0 A1 A2 A3 m) ∧ Below w.heap.size w w'

set_option maxRecDepth 100000 in
set_option maxHeartbeats 4000000 in
theorem l08Push (A : Option Addr) (c : Nat) (d : CD) (A0 A1 A2 A3 : Option Addr) (c0 c1 c2 c3 : Nat) (m : MD) (w : World) (v : Int) (hv : 0 ≤ v ∧ v ≤ 255) (hc : RepC w A d) (hm : RepM w A0 A1 A2 A3 m) :
    Calls Try.prog 100 #[.agg #[.int .i64 d.pc, .int .i64 d.sp, .int .i64 d.bank, .int .i64 d.level, .bool d.zero, .bool d.carry, .bool d.on, .bool d.halt, .slice A 16 c], .agg #[.slice A0 256 c0, .slice A1 32 c1, .slice A2 256 c2, .slice A3 16 c3, .int .i64 m.s], .int .i64 v] w (ReadsCM d.down (m.put d.sp v) w) := by
  obtain ⟨W1, hW1⟩ : ∃ W1, W1 = ((((w.alloc (.cells #[.int .i64 d.pc, .int .i64 d.sp, .int .i64 d.bank, .int .i64 d.level, .bool d.zero, .bool d.carry, .bool d.on, .bool d.halt, .slice A 16 c] 50)).alloc (.cells #[.slice A0 256 c0, .slice A1 32 c1, .slice A2 256 c2, .slice A3 16 c3, .int .i64 m.s] 28)).alloc (.cells #[.int .i64 0, .int .i64 0, .int .i64 0, .int .i64 0, .bool false, .bool false, .bool false, .bool false, .slice none 0 0] 50)).alloc (.cells #[.slice none 0 0, .slice none 0 0, .slice none 0 0, .slice none 0 0, .int .i64 0] 28)) := ⟨_, rfl⟩
  have hb0 : Below w.heap.size w W1 := by rw [hW1]; exact (((((Below.refl _ _).alloc (Nat.le_refl _) _).alloc (by simp; try omega) _).alloc (by simp; try omega) _).alloc (by simp; try omega) _)
  have Z2 : Hid (W1.heap.size = w.heap.size + 4) := Lib.hid (by rw [hW1]; simp)
  have X3 : Hid (Box W1 (w.heap.size) 50 #[.int .i64 d.pc, .int .i64 d.sp, .int .i64 d.bank, .int .i64 d.level, .bool d.zero, .bool d.carry, .bool d.on, .bool d.halt, .slice A 16 c]) := Lib.hid (by rw [hW1]; exact ((((Box.new w 50 #[.int .i64 d.pc, .int .i64 d.sp, .int .i64 d.bank, .int .i64 d.level, .bool d.zero, .bool d.carry, .bool d.on, .bool d.halt, .slice A 16 c]).alloc _).alloc _).alloc _))
  have X4 : Hid (Box W1 (w.heap.size + 1) 28 #[.slice A0 256 c0, .slice A1 32 c1, .slice A2 256 c2, .slice A3 16 c3, .int .i64 m.s]) := Lib.hid (by rw [hW1]; simpa using (((Box.new (w.alloc (.cells #[.int .i64 d.pc, .int .i64 d.sp, .int .i64 d.bank, .int .i64 d.level, .bool d.zero, .bool d.carry, .bool d.on, .bool d.halt, .slice A 16 c] 50)) 28 #[.slice A0 256 c0, .slice A1 32 c1, .slice A2 256 c2, .slice A3 16 c3, .int .i64 m.s]).alloc _).alloc _))
  have X5 : Hid (Box W1 (w.heap.size + 2) 50 #[.int .i64 0, .int .i64 0, .int .i64 0, .int .i64 0, .bool false, .bool false, .bool false, .bool false, .slice none 0 0]) := Lib.hid (by rw [hW1]; simpa using ((Box.new ((w.alloc (.cells #[.int .i64 d.pc, .int .i64 d.sp, .int .i64 d.bank, .int .i64 d.level, .bool d.zero, .bool d.carry, .bool d.on, .bool d.halt, .slice A 16 c] 50)).alloc (.cells #[.slice A0 256 c0, .slice A1 32 c1, .slice A2 256 c2, .slice A3 16 c3, .int .i64 m.s] 28)) 50 #[.int .i64 0, .int .i64 0, .int .i64 0, .int .i64 0, .bool false, .bool false, .bool false, .bool false, .slice none 0 0]).alloc _))
  have X6 : Hid (Box W1 (w.heap.size + 3) 28 #[.slice none 0 0, .slice none 0 0, .slice none 0 0, .slice none 0 0, .int .i64 0]) := Lib.hid (by rw [hW1]; simpa using (Box.new (((w.alloc (.cells #[.int .i64 d.pc, .int .i64 d.sp, .int .i64 d.bank, .int .i64 d.level, .bool d.zero, .bool d.carry, .bool d.on, .bool d.halt, .slice A 16 c] 50)).alloc (.cells #[.slice A0 256 c0, .slice A1 32 c1, .slice A2 256 c2, .slice A3 16 c3, .int .i64 m.s] 28)).alloc (.cells #[.int .i64 0, .int .i64 0, .int .i64 0, .int .i64 0, .bool false, .bool false, .bool false, .bool false, .slice none 0 0] 50)) 28 #[.slice none 0 0, .slice none 0 0, .slice none 0 0, .slice none 0 0, .int .i64 0]))
  have F7 : Hid (RepC W1 A d) := Lib.hid (hc.below hb0)
  have F8 : Hid (RepM W1 A0 A1 A2 A3 m) := Lib.hid (hm.below hb0)
  have HW0 := Lib.hid hW1
  clear hW1
  have hO := hc.1
  have hN := hm.1
  have hsp0 := hO.sp.1
  have hsp1 := hO.sp.2
  have HPut := Lib.hid (fun W (q : RepM W A0 A1 A2 A3 m) => l05PutM A0 A1 A2 A3 c0 c1 c2 c3 m W d.sp v (by omega) (by omega) hv.1 hv.2 q)
  unfold ReadsM at HPut
  have e1 : (d.sp + 255).tmod 256 = (d.sp + 255) % 256 := Int.tmod_eq_emod_of_nonneg (by omega)
  have e2 : IntKind.i64.wrap (d.sp + 255) = d.sp + 255 := IntWalk.i64_in _ (by omega)
  have HOk := Lib.hid hO.down
  generalize m.put d.sp v = m2 at HPut ⊢
  clear hc hm hO hN hv hsp0 hsp1
  have f9 := X3.out.cell 0 rfl
  have f10 := X3.out.cell 1 rfl
  have f11 := X3.out.cell 2 rfl
  have f12 := X3.out.cell 3 rfl
  have f13 := X3.out.cell 4 rfl
  have f14 := X3.out.cell 5 rfl
  have f15 := X3.out.cell 6 rfl
  have f16 := X3.out.cell 7 rfl
  have f17 := X3.out.cell 8 rfl
  have f18 := X4.out.cell 0 rfl
  have f19 := X4.out.cell 1 rfl
  have f20 := X4.out.cell 2 rfl
  have f21 := X4.out.cell 3 rfl
  have f22 := X4.out.cell 4 rfl
  have z23 := X4.out.frozen 0
  have z24 := X4.out.frozen 1
  have z25 := X4.out.frozen 2
  have z26 := X4.out.frozen 3
  have z27 := X4.out.frozen 4
  rw [HW0.out] at f9 f10 f11 f12 f13 f14 f15 f16 f17 f18 f19 f20 f21 f22 z23 z24 z25 z26 z27
  go_enter Try.func100, Try.ntmps100
  go_wp2_with fail
  rw [← HW0.out]
  rw [← HW0.out] at f9 f10 f11 f12 f13 f14 f15 f16 f17 f18 f19 f20 f21 f22 z23 z24 z25 z26 z27
  clear f9 f10 f11 f12 f13 f14 f15 f16 f17 f18 f19 f20 f21 f22 z23 z24 z25 z26 z27
  refine (HPut.out _ F8.out).mono ?_
  rintro e w1 ⟨B0, B1, B2, B3, e0, e1', e2', e3', rfl, N, hq⟩
  have X28 := Lib.hid (X3.out.step hq)
  have X29 := Lib.hid (X4.out.step hq)
  have X30 := Lib.hid (X5.out.step hq)
  have X31 := Lib.hid (X6.out.step hq)
  have F32 := Lib.hid (F7.out.below hq)
  have F33 := Lib.hid (F8.out.below hq)
  have hb34 := bt hb0 hq
  have Z35 : Hid (W1.heap.size ≤ w1.heap.size) := Lib.hid hq.size
  clear X3 X4 X5 X6 F7 F8 hb0 hq
  clear F33
  have f36 := X28.out.cell 0 rfl
  have f37 := X28.out.cell 1 rfl
  have f38 := X28.out.cell 2 rfl
  have f39 := X28.out.cell 3 rfl
  have f40 := X28.out.cell 4 rfl
  have f41 := X28.out.cell 5 rfl
  have f42 := X28.out.cell 6 rfl
  have f43 := X28.out.cell 7 rfl
  have f44 := X28.out.cell 8 rfl
  have f45 := X29.out.cell 0 rfl
  have f46 := X29.out.cell 1 rfl
  have f47 := X29.out.cell 2 rfl
  have f48 := X29.out.cell 3 rfl
  have f49 := X29.out.cell 4 rfl
  have f50 := X30.out.cell 0 rfl
  have f51 := X30.out.cell 1 rfl
  have f52 := X30.out.cell 2 rfl
  have f53 := X30.out.cell 3 rfl
  have f54 := X30.out.cell 4 rfl
  have f55 := X30.out.cell 5 rfl
  have f56 := X30.out.cell 6 rfl
  have f57 := X30.out.cell 7 rfl
  have f58 := X30.out.cell 8 rfl
  have f59 := X31.out.cell 0 rfl
  have f60 := X31.out.cell 1 rfl
  have f61 := X31.out.cell 2 rfl
  have f62 := X31.out.cell 3 rfl
  have f63 := X31.out.cell 4 rfl
  have z64 := X28.out.frozen 0
  have z65 := X28.out.frozen 1
  have z66 := X28.out.frozen 2
  have z67 := X28.out.frozen 3
  have z68 := X28.out.frozen 4
  have z69 := X28.out.frozen 5
  have z70 := X28.out.frozen 6
  have z71 := X28.out.frozen 7
  have z72 := X28.out.frozen 8
  have z73 := X29.out.frozen 0
  have z74 := X29.out.frozen 1
  have z75 := X29.out.frozen 2
  have z76 := X29.out.frozen 3
  have z77 := X29.out.frozen 4
  go_wp2
  obtain ⟨W78, hW78⟩ : ∃ W78, W78 = (((((w1.setCell ⟨w.heap.size + 1, 0, none⟩ (.slice B0 256 e0)).setCell ⟨w.heap.size + 1, 1, none⟩ (.slice B1 32 e1')).setCell ⟨w.heap.size + 1, 2, none⟩ (.slice B2 256 e2')).setCell ⟨w.heap.size + 1, 3, none⟩ (.slice B3 16 e3')).setCell ⟨w.heap.size + 1, 4, none⟩ (.int .i64 m2.s)) := ⟨_, rfl⟩
  have hB79 : Btw (w.heap.size + 1) (w.heap.size + 1 + 1) w1 W78 := by rw [hW78]; exact ((((((Btw.refl _ _ _).setCell (p := ⟨w.heap.size + 1, 0, none⟩) (Nat.le_refl _) (Nat.lt_succ_self _) _).setCell (p := ⟨w.heap.size + 1, 1, none⟩) (Nat.le_refl _) (Nat.lt_succ_self _) _).setCell (p := ⟨w.heap.size + 1, 2, none⟩) (Nat.le_refl _) (Nat.lt_succ_self _) _).setCell (p := ⟨w.heap.size + 1, 3, none⟩) (Nat.le_refl _) (Nat.lt_succ_self _) _).setCell (p := ⟨w.heap.size + 1, 4, none⟩) (Nat.le_refl _) (Nat.lt_succ_self _) _)
  have X80 : Hid (Box W78 (w.heap.size + 1) 28 #[.slice B0 256 e0, .slice B1 32 e1', .slice B2 256 e2', .slice B3 16 e3', .int .i64 m2.s]) := Lib.hid (by rw [hW78]; exact (X29.out.allN5 rfl _ _ _ _ _))
  have X81 := Lib.hid (X28.out.btw hB79 (by have := Z2.out; have := Z35.out; omega))
  have X82 := Lib.hid (X30.out.btw hB79 (by have := Z2.out; have := Z35.out; omega))
  have X83 := Lib.hid (X31.out.btw hB79 (by have := Z2.out; have := Z35.out; omega))
  have F84 := Lib.hid (F32.out.off X29.out (by simp) hB79)
  have F85 := Lib.hid (N.out.off X29.out (by simp) hB79)
  have hb86 := Btw.lowSize hB79 hb34 (Nat.le_of_lt X29.out.lt) (by have := Z2.out; have := Z35.out; omega)
  have Z87 : Hid (w1.heap.size ≤ W78.heap.size) := Lib.hid hB79.size
  rw [← hW78]
  clear hW78 hB79 X29 X28 X30 X31 F32 N hb34
  obtain ⟨W88, hW88⟩ : ∃ W88, W88 = (W78.setCell ⟨w.heap.size, 1, none⟩ (.int .i64 ((d.sp + 255) % 256))) := ⟨_, rfl⟩
  have hB89 : Btw (w.heap.size) (w.heap.size + 1) W78 W88 := by rw [hW88]; exact ((Btw.refl _ _ _).setCell (p := ⟨w.heap.size, 1, none⟩) (Nat.le_refl _) (Nat.lt_succ_self _) _)
  have X90 : Hid (Box W88 (w.heap.size) 50 #[.int .i64 d.pc, .int .i64 ((d.sp + 255) % 256), .int .i64 d.bank, .int .i64 d.level, .bool d.zero, .bool d.carry, .bool d.on, .bool d.halt, .slice A 16 c]) := Lib.hid (by rw [hW88]; exact (X81.out.set 1 _))
  have X91 := Lib.hid (X80.out.btw hB89 (by have := Z2.out; have := Z35.out; have := Z87.out; omega))
  have X92 := Lib.hid (X82.out.btw hB89 (by have := Z2.out; have := Z35.out; have := Z87.out; omega))
  have X93 := Lib.hid (X83.out.btw hB89 (by have := Z2.out; have := Z35.out; have := Z87.out; omega))
  have F94 := Lib.hid (F84.out.off X81.out (by simp) hB89)
  have F95 := Lib.hid (F85.out.off X81.out (by simp) hB89)
  have hb96 := Btw.lowSize hB89 hb86 (Nat.le_of_lt X81.out.lt) (by have := Z2.out; have := Z35.out; have := Z87.out; omega)
  have Z97 : Hid (W78.heap.size ≤ W88.heap.size) := Lib.hid hB89.size
  rw [← hW88]
  clear hW88 hB89 X81 X80 X82 X83 F84 F85 hb86
  refine wp_region_facts (by kernel_rfl) [[18], [19], [], []] [[], [], [0], [1]] [3, 4, 6, 7] (by kernel_rfl) (RetC W88 (w.heap.size) (w.heap.size + 1) (w.heap.size + 2) (w.heap.size + 3) 50 28 #[.int .i64 d.down.pc, .int .i64 d.down.sp, .int .i64 d.down.bank, .int .i64 d.down.level, .bool d.down.zero, .bool d.down.carry, .bool d.down.on, .bool d.down.halt, .slice A 16 c] #[.slice B0 256 e0, .slice B1 32 e1', .slice B2 256 e2', .slice B3 16 e3', .int .i64 m2.s]) (RetF 18 19 (w.heap.size + 2) (w.heap.size + 3) 50 28 #[.int .i64 d.down.pc, .int .i64 d.down.sp, .int .i64 d.down.bank, .int .i64 d.down.level, .bool d.down.zero, .bool d.down.carry, .bool d.down.on, .bool d.down.halt, .slice A 16 c] #[.slice B0 256 e0, .slice B1 32 e1', .slice B2 256 e2', .slice B3 16 e3', .int .i64 m2.s] 0 1 2 3 (fun _ _ => True)) ⟨(Btw.refl _ _ _).drew, ⟨_, by rfl, X92.out.drew⟩, ⟨_, by rfl, X93.out.drew⟩, X90.out.drew, X91.out.drew, by have := Z2.out; have := Z35.out; have := Z87.out; have := Z97.out; omega⟩ ⟨ret_load1 rfl 3 rfl rfl (by decide) rfl _ Try.underlying50 rfl infoCpu9 (by decide) (by show 18 < 20; decide), ret_load2 rfl (by decide) 4 rfl rfl (by decide) rfl _ Try.underlying28 rfl infoMem5 (by decide) (by show 19 < 20; decide), ret_store1 rfl (by decide) (by decide) 6 rfl (by decide) rfl (by decide) (by decide) infoCpu9 one9, ret_store2 rfl (by decide) (by decide) (by decide) (by decide) 7 rfl (by decide) rfl (by decide) (by decide) infoMem5 one5, trivial⟩ ?_
  intro T W hT hs hC hF
  obtain ⟨t0, t1, t2, t3, t4, t5, t6, t7, t8, t9, t10, t11, t12, t13, t14, t15, t16, t17, t18, t19, rfl⟩ := arr20 T hT
  obtain rfl : t6 = .pointer (some ⟨w.heap.size + 2, 0, none⟩) := hs 6 (by decide)
  obtain rfl : t7 = .pointer (some ⟨w.heap.size + 3, 0, none⟩) := hs 7 (by decide)
  have R1 : Box W (w.heap.size + 2) 50 #[.int .i64 d.down.pc, .int .i64 d.down.sp, .int .i64 d.down.bank, .int .i64 d.down.level, .bool d.down.zero, .bool d.down.carry, .bool d.down.on, .bool d.down.halt, .slice A 16 c] := hF 2 (by decide)
  have R2 : Box W (w.heap.size + 3) 28 #[.slice B0 256 e0, .slice B1 32 e1', .slice B2 256 e2', .slice B3 16 e3', .int .i64 m2.s] := hF 3 (by decide)
  have HC := Lib.hid hC.k
  clear hF hs hT hC
  go_wp2
  refine bodyPost_ret (v := .tuple #[.agg #[.int .i64 d.down.pc, .int .i64 d.down.sp, .int .i64 d.down.bank, .int .i64 d.down.level, .bool d.down.zero, .bool d.down.carry, .bool d.down.on, .bool d.down.halt, .slice A 16 c], .agg #[.slice B0 256 e0, .slice B1 32 e1', .slice B2 256 e2', .slice B3 16 e3', .int .i64 m2.s]]) (results_cc Try.results100 rfl rfl R1 R2 Try.underlying50 rfl infoCpu9 Try.underlying28 rfl infoMem5) rfl ?_
  have hbW := HC.out.lowSize hb96 (Nat.le_of_lt X92.out.lt) (by have := Z2.out; have := Z35.out; have := Z87.out; have := Z97.out; omega)
  exact ⟨_, _, _, _, _, _, _, _, _, _, rfl, Lib.hid ⟨HOk.out, (F94.out.off2 X92.out X93.out (by decide) (by decide) HC.out).2⟩, Lib.hid (F95.out.off2 X92.out X93.out (by decide) (by decide) HC.out), hbW⟩
theorem arr30 (T : Array Value) (h : T.size = 30) : ∃ t0 t1 t2 t3 t4 t5 t6 t7 t8 t9 t10 t11 t12 t13 t14 t15 t16 t17 t18 t19 t20 t21 t22 t23 t24 t25 t26 t27 t28 t29 : Value, T = #[t0, t1, t2, t3, t4, t5, t6, t7, t8, t9, t10, t11, t12, t13, t14, t15, t16, t17, t18, t19, t20, t21, t22, t23, t24, t25, t26, t27, t28, t29] := by
  obtain ⟨l⟩ := T
  match l, h with
  | [t0, t1, t2, t3, t4, t5, t6, t7, t8, t9, t10, t11, t12, t13, t14, t15, t16, t17, t18, t19, t20, t21, t22, t23, t24, t25, t26, t27, t28, t29], _ => exact ⟨t0, t1, t2, t3, t4, t5, t6, t7, t8, t9, t10, t11, t12, t13, t14, t15, t16, t17, t18, t19, t20, t21, t22, t23, t24, t25, t26, t27, t28, t29, rfl⟩

set_option maxRecDepth 100000 in
set_option maxHeartbeats 4000000 in
theorem l08Call (A : Option Addr) (c : Nat) (d : CD) (A0 A1 A2 A3 : Option Addr) (c0 c1 c2 c3 : Nat) (m : MD) (w : World) (tt : Int) (ht0 : 0 ≤ tt) (ht1 : tt ≤ 4095) (hc : RepC w A d) (hm : RepM w A0 A1 A2 A3 m) :
    Calls Try.prog 99 #[.agg #[.int .i64 d.pc, .int .i64 d.sp, .int .i64 d.bank, .int .i64 d.level, .bool d.zero, .bool d.carry, .bool d.on, .bool d.halt, .slice A 16 c], .agg #[.slice A0 256 c0, .slice A1 32 c1, .slice A2 256 c2, .slice A3 16 c3, .int .i64 m.s], .int .i64 tt] w (ReadsCM (callD d tt) (callM d m) w) := by
  obtain ⟨W1, hW1⟩ : ∃ W1, W1 = ((((w.alloc (.cells #[.int .i64 d.pc, .int .i64 d.sp, .int .i64 d.bank, .int .i64 d.level, .bool d.zero, .bool d.carry, .bool d.on, .bool d.halt, .slice A 16 c] 50)).alloc (.cells #[.slice A0 256 c0, .slice A1 32 c1, .slice A2 256 c2, .slice A3 16 c3, .int .i64 m.s] 28)).alloc (.cells #[.int .i64 0, .int .i64 0, .int .i64 0, .int .i64 0, .bool false, .bool false, .bool false, .bool false, .slice none 0 0] 50)).alloc (.cells #[.slice none 0 0, .slice none 0 0, .slice none 0 0, .slice none 0 0, .int .i64 0] 28)) := ⟨_, rfl⟩
  have hb0 : Below w.heap.size w W1 := by rw [hW1]; exact (((((Below.refl _ _).alloc (Nat.le_refl _) _).alloc (by simp; try omega) _).alloc (by simp; try omega) _).alloc (by simp; try omega) _)
  have Z2 : Hid (W1.heap.size = w.heap.size + 4) := Lib.hid (by rw [hW1]; simp)
  have X3 : Hid (Box W1 (w.heap.size) 50 #[.int .i64 d.pc, .int .i64 d.sp, .int .i64 d.bank, .int .i64 d.level, .bool d.zero, .bool d.carry, .bool d.on, .bool d.halt, .slice A 16 c]) := Lib.hid (by rw [hW1]; exact ((((Box.new w 50 #[.int .i64 d.pc, .int .i64 d.sp, .int .i64 d.bank, .int .i64 d.level, .bool d.zero, .bool d.carry, .bool d.on, .bool d.halt, .slice A 16 c]).alloc _).alloc _).alloc _))
  have X4 : Hid (Box W1 (w.heap.size + 1) 28 #[.slice A0 256 c0, .slice A1 32 c1, .slice A2 256 c2, .slice A3 16 c3, .int .i64 m.s]) := Lib.hid (by rw [hW1]; simpa using (((Box.new (w.alloc (.cells #[.int .i64 d.pc, .int .i64 d.sp, .int .i64 d.bank, .int .i64 d.level, .bool d.zero, .bool d.carry, .bool d.on, .bool d.halt, .slice A 16 c] 50)) 28 #[.slice A0 256 c0, .slice A1 32 c1, .slice A2 256 c2, .slice A3 16 c3, .int .i64 m.s]).alloc _).alloc _))
  have X5 : Hid (Box W1 (w.heap.size + 2) 50 #[.int .i64 0, .int .i64 0, .int .i64 0, .int .i64 0, .bool false, .bool false, .bool false, .bool false, .slice none 0 0]) := Lib.hid (by rw [hW1]; simpa using ((Box.new ((w.alloc (.cells #[.int .i64 d.pc, .int .i64 d.sp, .int .i64 d.bank, .int .i64 d.level, .bool d.zero, .bool d.carry, .bool d.on, .bool d.halt, .slice A 16 c] 50)).alloc (.cells #[.slice A0 256 c0, .slice A1 32 c1, .slice A2 256 c2, .slice A3 16 c3, .int .i64 m.s] 28)) 50 #[.int .i64 0, .int .i64 0, .int .i64 0, .int .i64 0, .bool false, .bool false, .bool false, .bool false, .slice none 0 0]).alloc _))
  have X6 : Hid (Box W1 (w.heap.size + 3) 28 #[.slice none 0 0, .slice none 0 0, .slice none 0 0, .slice none 0 0, .int .i64 0]) := Lib.hid (by rw [hW1]; simpa using (Box.new (((w.alloc (.cells #[.int .i64 d.pc, .int .i64 d.sp, .int .i64 d.bank, .int .i64 d.level, .bool d.zero, .bool d.carry, .bool d.on, .bool d.halt, .slice A 16 c] 50)).alloc (.cells #[.slice A0 256 c0, .slice A1 32 c1, .slice A2 256 c2, .slice A3 16 c3, .int .i64 m.s] 28)).alloc (.cells #[.int .i64 0, .int .i64 0, .int .i64 0, .int .i64 0, .bool false, .bool false, .bool false, .bool false, .slice none 0 0] 50)) 28 #[.slice none 0 0, .slice none 0 0, .slice none 0 0, .slice none 0 0, .int .i64 0]))
  have F7 : Hid (RepC W1 A d) := Lib.hid (hc.below hb0)
  have F8 : Hid (RepM W1 A0 A1 A2 A3 m) := Lib.hid (hm.below hb0)
  have HW0 := Lib.hid hW1
  clear hW1
  have hO := hc.1
  have hN := hm.1
  have hpc0 := hO.pc.1
  have hpc1 := hO.pc.2
  have hs1 := hO.sp
  have HP1 := Lib.hid (fun W (q : RepC W A d) (r : RepM W A0 A1 A2 A3 m) => l08Push A c d A0 A1 A2 A3 c0 c1 c2 c3 m W (d.pc / 256) (by omega) q r)
  have HP2 := Lib.hid (fun Aa ca Ab Ac Ad Ae cb cc cd ce W (q : RepC W Aa d.down) (r : RepM W Ab Ac Ad Ae (m.put d.sp (d.pc / 256))) => l08Push Aa ca d.down Ab Ac Ad Ae cb cc cd ce (m.put d.sp (d.pc / 256)) W (d.down.pc % 256) (by omega) q r)
  unfold ReadsCM at HP1 HP2
  have a255 := and_255 d.down.pc
  have HM : Hid (callM d m = (m.put d.sp (d.pc / 256)).put d.down.sp (d.down.pc % 256)) := Lib.hid rfl
  have HD : Hid (callD d tt = d.down.down.at tt) := Lib.hid rfl
  have HOk := Lib.hid hO.down.down
  generalize callM d m = mF at HM ⊢
  generalize (m.put d.sp (d.pc / 256)) = m1 at HP1 HP2 HM
  generalize callD d tt = dF at HD ⊢
  generalize m1.put d.down.sp (d.down.pc % 256) = m2 at HP2 HM
  generalize hd1 : d.down = d1 at HP1 HP2 HD HOk HM a255
  generalize d1.down = d2 at HP2 HD HOk
  clear hc hm hO hN hs1 hd1
  have f9 := X3.out.cell 0 rfl
  have f10 := X3.out.cell 1 rfl
  have f11 := X3.out.cell 2 rfl
  have f12 := X3.out.cell 3 rfl
  have f13 := X3.out.cell 4 rfl
  have f14 := X3.out.cell 5 rfl
  have f15 := X3.out.cell 6 rfl
  have f16 := X3.out.cell 7 rfl
  have f17 := X3.out.cell 8 rfl
  have f18 := X4.out.cell 0 rfl
  have f19 := X4.out.cell 1 rfl
  have f20 := X4.out.cell 2 rfl
  have f21 := X4.out.cell 3 rfl
  have f22 := X4.out.cell 4 rfl
  rw [HW0.out] at f9 f10 f11 f12 f13 f14 f15 f16 f17 f18 f19 f20 f21 f22
  go_enter Try.func99, Try.ntmps99
  go_wp2_with fail
  rw [← HW0.out]
  rw [← HW0.out] at f9 f10 f11 f12 f13 f14 f15 f16 f17 f18 f19 f20 f21 f22
  clear f9 f10 f11 f12 f13 f14 f15 f16 f17 f18 f19 f20 f21 f22
  refine (HP1.out _ F7.out F8.out).mono ?_
  rintro e w1 ⟨A1, c1, B10, B11, B12, B13, e10, e11, e12, e13, rfl, NC1, NM1, hq1⟩
  have X23 := Lib.hid (X3.out.step hq1)
  have X24 := Lib.hid (X4.out.step hq1)
  have X25 := Lib.hid (X5.out.step hq1)
  have X26 := Lib.hid (X6.out.step hq1)
  have F27 := Lib.hid (F7.out.below hq1)
  have F28 := Lib.hid (F8.out.below hq1)
  have hb29 := bt hb0 hq1
  have Z30 : Hid (W1.heap.size ≤ w1.heap.size) := Lib.hid hq1.size
  clear X3 X4 X5 X6 F7 F8 hb0 hq1
  clear F27 F28
  clear HP1
  have f31 := X23.out.cell 0 rfl
  have f32 := X23.out.cell 1 rfl
  have f33 := X23.out.cell 2 rfl
  have f34 := X23.out.cell 3 rfl
  have f35 := X23.out.cell 4 rfl
  have f36 := X23.out.cell 5 rfl
  have f37 := X23.out.cell 6 rfl
  have f38 := X23.out.cell 7 rfl
  have f39 := X23.out.cell 8 rfl
  have f40 := X24.out.cell 0 rfl
  have f41 := X24.out.cell 1 rfl
  have f42 := X24.out.cell 2 rfl
  have f43 := X24.out.cell 3 rfl
  have f44 := X24.out.cell 4 rfl
  have z45 := X23.out.frozen 0
  have z46 := X23.out.frozen 1
  have z47 := X23.out.frozen 2
  have z48 := X23.out.frozen 3
  have z49 := X23.out.frozen 4
  have z50 := X23.out.frozen 5
  have z51 := X23.out.frozen 6
  have z52 := X23.out.frozen 7
  have z53 := X23.out.frozen 8
  have z54 := X24.out.frozen 0
  have z55 := X24.out.frozen 1
  have z56 := X24.out.frozen 2
  have z57 := X24.out.frozen 3
  have z58 := X24.out.frozen 4
  go_wp2_with fail
  obtain ⟨W59, hW59⟩ : ∃ W59, W59 = (((((((((w1.setCell ⟨w.heap.size, 0, none⟩ (.int .i64 d1.pc)).setCell ⟨w.heap.size, 1, none⟩ (.int .i64 d1.sp)).setCell ⟨w.heap.size, 2, none⟩ (.int .i64 d1.bank)).setCell ⟨w.heap.size, 3, none⟩ (.int .i64 d1.level)).setCell ⟨w.heap.size, 4, none⟩ (.bool d1.zero)).setCell ⟨w.heap.size, 5, none⟩ (.bool d1.carry)).setCell ⟨w.heap.size, 6, none⟩ (.bool d1.on)).setCell ⟨w.heap.size, 7, none⟩ (.bool d1.halt)).setCell ⟨w.heap.size, 8, none⟩ (.slice A1 16 c1)) := ⟨_, rfl⟩
  have hB60 : Btw (w.heap.size) (w.heap.size + 1) w1 W59 := by rw [hW59]; exact ((((((((((Btw.refl _ _ _).setCell (p := ⟨w.heap.size, 0, none⟩) (Nat.le_refl _) (Nat.lt_succ_self _) _).setCell (p := ⟨w.heap.size, 1, none⟩) (Nat.le_refl _) (Nat.lt_succ_self _) _).setCell (p := ⟨w.heap.size, 2, none⟩) (Nat.le_refl _) (Nat.lt_succ_self _) _).setCell (p := ⟨w.heap.size, 3, none⟩) (Nat.le_refl _) (Nat.lt_succ_self _) _).setCell (p := ⟨w.heap.size, 4, none⟩) (Nat.le_refl _) (Nat.lt_succ_self _) _).setCell (p := ⟨w.heap.size, 5, none⟩) (Nat.le_refl _) (Nat.lt_succ_self _) _).setCell (p := ⟨w.heap.size, 6, none⟩) (Nat.le_refl _) (Nat.lt_succ_self _) _).setCell (p := ⟨w.heap.size, 7, none⟩) (Nat.le_refl _) (Nat.lt_succ_self _) _).setCell (p := ⟨w.heap.size, 8, none⟩) (Nat.le_refl _) (Nat.lt_succ_self _) _)
  have X61 : Hid (Box W59 (w.heap.size) 50 #[.int .i64 d1.pc, .int .i64 d1.sp, .int .i64 d1.bank, .int .i64 d1.level, .bool d1.zero, .bool d1.carry, .bool d1.on, .bool d1.halt, .slice A1 16 c1]) := Lib.hid (by rw [hW59]; exact (X23.out.allN9 rfl _ _ _ _ _ _ _ _ _))
  have X62 := Lib.hid (X24.out.btw hB60 (by have := Z2.out; have := Z30.out; omega))
  have X63 := Lib.hid (X25.out.btw hB60 (by have := Z2.out; have := Z30.out; omega))
  have X64 := Lib.hid (X26.out.btw hB60 (by have := Z2.out; have := Z30.out; omega))
  have F65 := Lib.hid (NC1.out.off X23.out (by simp) hB60)
  have F66 := Lib.hid (NM1.out.off X23.out (by simp) hB60)
  have hb67 := Btw.lowSize hB60 hb29 (Nat.le_of_lt X23.out.lt) (by have := Z2.out; have := Z30.out; omega)
  have Z68 : Hid (w1.heap.size ≤ W59.heap.size) := Lib.hid hB60.size
  rw [← hW59]
  clear hW59 hB60 X23 X24 X25 X26 NC1 NM1 hb29
  obtain ⟨W69, hW69⟩ : ∃ W69, W69 = (((((W59.setCell ⟨w.heap.size + 1, 0, none⟩ (.slice B10 256 e10)).setCell ⟨w.heap.size + 1, 1, none⟩ (.slice B11 32 e11)).setCell ⟨w.heap.size + 1, 2, none⟩ (.slice B12 256 e12)).setCell ⟨w.heap.size + 1, 3, none⟩ (.slice B13 16 e13)).setCell ⟨w.heap.size + 1, 4, none⟩ (.int .i64 m1.s)) := ⟨_, rfl⟩
  have hB70 : Btw (w.heap.size + 1) (w.heap.size + 1 + 1) W59 W69 := by rw [hW69]; exact ((((((Btw.refl _ _ _).setCell (p := ⟨w.heap.size + 1, 0, none⟩) (Nat.le_refl _) (Nat.lt_succ_self _) _).setCell (p := ⟨w.heap.size + 1, 1, none⟩) (Nat.le_refl _) (Nat.lt_succ_self _) _).setCell (p := ⟨w.heap.size + 1, 2, none⟩) (Nat.le_refl _) (Nat.lt_succ_self _) _).setCell (p := ⟨w.heap.size + 1, 3, none⟩) (Nat.le_refl _) (Nat.lt_succ_self _) _).setCell (p := ⟨w.heap.size + 1, 4, none⟩) (Nat.le_refl _) (Nat.lt_succ_self _) _)
  have X71 : Hid (Box W69 (w.heap.size + 1) 28 #[.slice B10 256 e10, .slice B11 32 e11, .slice B12 256 e12, .slice B13 16 e13, .int .i64 m1.s]) := Lib.hid (by rw [hW69]; exact (X62.out.allN5 rfl _ _ _ _ _))
  have X72 := Lib.hid (X61.out.btw hB70 (by have := Z2.out; have := Z30.out; have := Z68.out; omega))
  have X73 := Lib.hid (X63.out.btw hB70 (by have := Z2.out; have := Z30.out; have := Z68.out; omega))
  have X74 := Lib.hid (X64.out.btw hB70 (by have := Z2.out; have := Z30.out; have := Z68.out; omega))
  have F75 := Lib.hid (F65.out.off X62.out (by simp) hB70)
  have F76 := Lib.hid (F66.out.off X62.out (by simp) hB70)
  have hb77 := Btw.lowSize hB70 hb67 (Nat.le_of_lt X62.out.lt) (by have := Z2.out; have := Z30.out; have := Z68.out; omega)
  have Z78 : Hid (W59.heap.size ≤ W69.heap.size) := Lib.hid hB70.size
  rw [← hW69]
  clear hW69 hB70 X62 X61 X63 X64 F65 F66 hb67
  clear f31 f32 f33 f34 f35 f36 f37 f38 f39 f40 f41 f42 f43 f44 z45 z46 z47 z48 z49 z50 z51 z52 z53 z54 z55 z56 z57 z58
  refine (HP2.out _ _ _ _ _ _ _ _ _ _ _ F75.out F76.out).mono ?_
  rintro e w2 ⟨A2, c2, B20, B21, B22, B23, e20, e21, e22, e23, rfl, NC2, NM2, hq2⟩
  have X79 := Lib.hid (X72.out.step hq2)
  have X80 := Lib.hid (X71.out.step hq2)
  have X81 := Lib.hid (X73.out.step hq2)
  have X82 := Lib.hid (X74.out.step hq2)
  have F83 := Lib.hid (F75.out.below hq2)
  have F84 := Lib.hid (F76.out.below hq2)
  have hb85 := bt hb77 hq2
  have Z86 : Hid (W69.heap.size ≤ w2.heap.size) := Lib.hid hq2.size
  clear X72 X71 X73 X74 F75 F76 hb77 hq2
  clear F83 F84
  clear HP2
  have f87 := X79.out.cell 0 rfl
  have f88 := X79.out.cell 1 rfl
  have f89 := X79.out.cell 2 rfl
  have f90 := X79.out.cell 3 rfl
  have f91 := X79.out.cell 4 rfl
  have f92 := X79.out.cell 5 rfl
  have f93 := X79.out.cell 6 rfl
  have f94 := X79.out.cell 7 rfl
  have f95 := X79.out.cell 8 rfl
  have f96 := X80.out.cell 0 rfl
  have f97 := X80.out.cell 1 rfl
  have f98 := X80.out.cell 2 rfl
  have f99 := X80.out.cell 3 rfl
  have f100 := X80.out.cell 4 rfl
  have f101 := X81.out.cell 0 rfl
  have f102 := X81.out.cell 1 rfl
  have f103 := X81.out.cell 2 rfl
  have f104 := X81.out.cell 3 rfl
  have f105 := X81.out.cell 4 rfl
  have f106 := X81.out.cell 5 rfl
  have f107 := X81.out.cell 6 rfl
  have f108 := X81.out.cell 7 rfl
  have f109 := X81.out.cell 8 rfl
  have f110 := X82.out.cell 0 rfl
  have f111 := X82.out.cell 1 rfl
  have f112 := X82.out.cell 2 rfl
  have f113 := X82.out.cell 3 rfl
  have f114 := X82.out.cell 4 rfl
  have z115 := X79.out.frozen 0
  have z116 := X79.out.frozen 1
  have z117 := X79.out.frozen 2
  have z118 := X79.out.frozen 3
  have z119 := X79.out.frozen 4
  have z120 := X79.out.frozen 5
  have z121 := X79.out.frozen 6
  have z122 := X79.out.frozen 7
  have z123 := X79.out.frozen 8
  have z124 := X80.out.frozen 0
  have z125 := X80.out.frozen 1
  have z126 := X80.out.frozen 2
  have z127 := X80.out.frozen 3
  have z128 := X80.out.frozen 4
  go_wp2
  obtain ⟨W129, hW129⟩ : ∃ W129, W129 = (((((((((w2.setCell ⟨w.heap.size, 0, none⟩ (.int .i64 d2.pc)).setCell ⟨w.heap.size, 1, none⟩ (.int .i64 d2.sp)).setCell ⟨w.heap.size, 2, none⟩ (.int .i64 d2.bank)).setCell ⟨w.heap.size, 3, none⟩ (.int .i64 d2.level)).setCell ⟨w.heap.size, 4, none⟩ (.bool d2.zero)).setCell ⟨w.heap.size, 5, none⟩ (.bool d2.carry)).setCell ⟨w.heap.size, 6, none⟩ (.bool d2.on)).setCell ⟨w.heap.size, 7, none⟩ (.bool d2.halt)).setCell ⟨w.heap.size, 8, none⟩ (.slice A2 16 c2)) := ⟨_, rfl⟩
  have hB130 : Btw (w.heap.size) (w.heap.size + 1) w2 W129 := by rw [hW129]; exact ((((((((((Btw.refl _ _ _).setCell (p := ⟨w.heap.size, 0, none⟩) (Nat.le_refl _) (Nat.lt_succ_self _) _).setCell (p := ⟨w.heap.size, 1, none⟩) (Nat.le_refl _) (Nat.lt_succ_self _) _).setCell (p := ⟨w.heap.size, 2, none⟩) (Nat.le_refl _) (Nat.lt_succ_self _) _).setCell (p := ⟨w.heap.size, 3, none⟩) (Nat.le_refl _) (Nat.lt_succ_self _) _).setCell (p := ⟨w.heap.size, 4, none⟩) (Nat.le_refl _) (Nat.lt_succ_self _) _).setCell (p := ⟨w.heap.size, 5, none⟩) (Nat.le_refl _) (Nat.lt_succ_self _) _).setCell (p := ⟨w.heap.size, 6, none⟩) (Nat.le_refl _) (Nat.lt_succ_self _) _).setCell (p := ⟨w.heap.size, 7, none⟩) (Nat.le_refl _) (Nat.lt_succ_self _) _).setCell (p := ⟨w.heap.size, 8, none⟩) (Nat.le_refl _) (Nat.lt_succ_self _) _)
  have X131 : Hid (Box W129 (w.heap.size) 50 #[.int .i64 d2.pc, .int .i64 d2.sp, .int .i64 d2.bank, .int .i64 d2.level, .bool d2.zero, .bool d2.carry, .bool d2.on, .bool d2.halt, .slice A2 16 c2]) := Lib.hid (by rw [hW129]; exact (X79.out.allN9 rfl _ _ _ _ _ _ _ _ _))
  have X132 := Lib.hid (X80.out.btw hB130 (by have := Z2.out; have := Z30.out; have := Z68.out; have := Z78.out; have := Z86.out; omega))
  have X133 := Lib.hid (X81.out.btw hB130 (by have := Z2.out; have := Z30.out; have := Z68.out; have := Z78.out; have := Z86.out; omega))
  have X134 := Lib.hid (X82.out.btw hB130 (by have := Z2.out; have := Z30.out; have := Z68.out; have := Z78.out; have := Z86.out; omega))
  have F135 := Lib.hid (NC2.out.off X79.out (by simp) hB130)
  have F136 := Lib.hid (NM2.out.off X79.out (by simp) hB130)
  have hb137 := Btw.lowSize hB130 hb85 (Nat.le_of_lt X79.out.lt) (by have := Z2.out; have := Z30.out; have := Z68.out; have := Z78.out; have := Z86.out; omega)
  have Z138 : Hid (w2.heap.size ≤ W129.heap.size) := Lib.hid hB130.size
  rw [← hW129]
  clear hW129 hB130 X79 X80 X81 X82 NC2 NM2 hb85
  obtain ⟨W139, hW139⟩ : ∃ W139, W139 = (((((W129.setCell ⟨w.heap.size + 1, 0, none⟩ (.slice B20 256 e20)).setCell ⟨w.heap.size + 1, 1, none⟩ (.slice B21 32 e21)).setCell ⟨w.heap.size + 1, 2, none⟩ (.slice B22 256 e22)).setCell ⟨w.heap.size + 1, 3, none⟩ (.slice B23 16 e23)).setCell ⟨w.heap.size + 1, 4, none⟩ (.int .i64 m2.s)) := ⟨_, rfl⟩
  have hB140 : Btw (w.heap.size + 1) (w.heap.size + 1 + 1) W129 W139 := by rw [hW139]; exact ((((((Btw.refl _ _ _).setCell (p := ⟨w.heap.size + 1, 0, none⟩) (Nat.le_refl _) (Nat.lt_succ_self _) _).setCell (p := ⟨w.heap.size + 1, 1, none⟩) (Nat.le_refl _) (Nat.lt_succ_self _) _).setCell (p := ⟨w.heap.size + 1, 2, none⟩) (Nat.le_refl _) (Nat.lt_succ_self _) _).setCell (p := ⟨w.heap.size + 1, 3, none⟩) (Nat.le_refl _) (Nat.lt_succ_self _) _).setCell (p := ⟨w.heap.size + 1, 4, none⟩) (Nat.le_refl _) (Nat.lt_succ_self _) _)
  have X141 : Hid (Box W139 (w.heap.size + 1) 28 #[.slice B20 256 e20, .slice B21 32 e21, .slice B22 256 e22, .slice B23 16 e23, .int .i64 m2.s]) := Lib.hid (by rw [hW139]; exact (X132.out.allN5 rfl _ _ _ _ _))
  have X142 := Lib.hid (X131.out.btw hB140 (by have := Z2.out; have := Z30.out; have := Z68.out; have := Z78.out; have := Z86.out; have := Z138.out; omega))
  have X143 := Lib.hid (X133.out.btw hB140 (by have := Z2.out; have := Z30.out; have := Z68.out; have := Z78.out; have := Z86.out; have := Z138.out; omega))
  have X144 := Lib.hid (X134.out.btw hB140 (by have := Z2.out; have := Z30.out; have := Z68.out; have := Z78.out; have := Z86.out; have := Z138.out; omega))
  have F145 := Lib.hid (F135.out.off X132.out (by simp) hB140)
  have F146 := Lib.hid (F136.out.off X132.out (by simp) hB140)
  have hb147 := Btw.lowSize hB140 hb137 (Nat.le_of_lt X132.out.lt) (by have := Z2.out; have := Z30.out; have := Z68.out; have := Z78.out; have := Z86.out; have := Z138.out; omega)
  have Z148 : Hid (W129.heap.size ≤ W139.heap.size) := Lib.hid hB140.size
  rw [← hW139]
  clear hW139 hB140 X132 X131 X133 X134 F135 F136 hb137
  obtain ⟨W149, hW149⟩ : ∃ W149, W149 = (W139.setCell ⟨w.heap.size, 0, none⟩ (.int .i64 tt)) := ⟨_, rfl⟩
  have hB150 : Btw (w.heap.size) (w.heap.size + 1) W139 W149 := by rw [hW149]; exact ((Btw.refl _ _ _).setCell (p := ⟨w.heap.size, 0, none⟩) (Nat.le_refl _) (Nat.lt_succ_self _) _)
  have X151 : Hid (Box W149 (w.heap.size) 50 #[.int .i64 tt, .int .i64 d2.sp, .int .i64 d2.bank, .int .i64 d2.level, .bool d2.zero, .bool d2.carry, .bool d2.on, .bool d2.halt, .slice A2 16 c2]) := Lib.hid (by rw [hW149]; exact (X142.out.set 0 _))
  have X152 := Lib.hid (X141.out.btw hB150 (by have := Z2.out; have := Z30.out; have := Z68.out; have := Z78.out; have := Z86.out; have := Z138.out; have := Z148.out; omega))
  have X153 := Lib.hid (X143.out.btw hB150 (by have := Z2.out; have := Z30.out; have := Z68.out; have := Z78.out; have := Z86.out; have := Z138.out; have := Z148.out; omega))
  have X154 := Lib.hid (X144.out.btw hB150 (by have := Z2.out; have := Z30.out; have := Z68.out; have := Z78.out; have := Z86.out; have := Z138.out; have := Z148.out; omega))
  have F155 := Lib.hid (F145.out.off X142.out (by simp) hB150)
  have F156 := Lib.hid (F146.out.off X142.out (by simp) hB150)
  have hb157 := Btw.lowSize hB150 hb147 (Nat.le_of_lt X142.out.lt) (by have := Z2.out; have := Z30.out; have := Z68.out; have := Z78.out; have := Z86.out; have := Z138.out; have := Z148.out; omega)
  have Z158 : Hid (W139.heap.size ≤ W149.heap.size) := Lib.hid hB150.size
  rw [← hW149]
  clear hW149 hB150 X142 X141 X143 X144 F145 F146 hb147
  refine wp_region_facts (by kernel_rfl) [[28], [29], [], []] [[], [], [0], [1]] [3, 4, 6, 7] (by kernel_rfl) (RetC W149 (w.heap.size) (w.heap.size + 1) (w.heap.size + 2) (w.heap.size + 3) 50 28 #[.int .i64 tt, .int .i64 d2.sp, .int .i64 d2.bank, .int .i64 d2.level, .bool d2.zero, .bool d2.carry, .bool d2.on, .bool d2.halt, .slice A2 16 c2] #[.slice B20 256 e20, .slice B21 32 e21, .slice B22 256 e22, .slice B23 16 e23, .int .i64 m2.s]) (RetF 28 29 (w.heap.size + 2) (w.heap.size + 3) 50 28 #[.int .i64 tt, .int .i64 d2.sp, .int .i64 d2.bank, .int .i64 d2.level, .bool d2.zero, .bool d2.carry, .bool d2.on, .bool d2.halt, .slice A2 16 c2] #[.slice B20 256 e20, .slice B21 32 e21, .slice B22 256 e22, .slice B23 16 e23, .int .i64 m2.s] 0 1 2 3 (fun _ _ => True)) ⟨(Btw.refl _ _ _).drew, ⟨_, by rfl, X153.out.drew⟩, ⟨_, by rfl, X154.out.drew⟩, X151.out.drew, X152.out.drew, by have := Z2.out; have := Z30.out; have := Z68.out; have := Z78.out; have := Z86.out; have := Z138.out; have := Z148.out; have := Z158.out; omega⟩ ⟨ret_load1 rfl 3 rfl rfl (by decide) rfl _ Try.underlying50 rfl infoCpu9 (by decide) (by show 28 < 30; decide), ret_load2 rfl (by decide) 4 rfl rfl (by decide) rfl _ Try.underlying28 rfl infoMem5 (by decide) (by show 29 < 30; decide), ret_store1 rfl (by decide) (by decide) 6 rfl (by decide) rfl (by decide) (by decide) infoCpu9 one9, ret_store2 rfl (by decide) (by decide) (by decide) (by decide) 7 rfl (by decide) rfl (by decide) (by decide) infoMem5 one5, trivial⟩ ?_
  intro T W hT hs hC hF
  obtain ⟨t0, t1, t2, t3, t4, t5, t6, t7, t8, t9, t10, t11, t12, t13, t14, t15, t16, t17, t18, t19, t20, t21, t22, t23, t24, t25, t26, t27, t28, t29, rfl⟩ := arr30 T hT
  obtain rfl : t6 = .pointer (some ⟨w.heap.size + 2, 0, none⟩) := hs 6 (by decide)
  obtain rfl : t7 = .pointer (some ⟨w.heap.size + 3, 0, none⟩) := hs 7 (by decide)
  have R1 : Box W (w.heap.size + 2) 50 #[.int .i64 tt, .int .i64 d2.sp, .int .i64 d2.bank, .int .i64 d2.level, .bool d2.zero, .bool d2.carry, .bool d2.on, .bool d2.halt, .slice A2 16 c2] := hF 2 (by decide)
  have R2 : Box W (w.heap.size + 3) 28 #[.slice B20 256 e20, .slice B21 32 e21, .slice B22 256 e22, .slice B23 16 e23, .int .i64 m2.s] := hF 3 (by decide)
  have HC := Lib.hid hC.k
  clear hF hs hT hC
  go_wp2
  refine bodyPost_ret (v := .tuple #[.agg #[.int .i64 tt, .int .i64 d2.sp, .int .i64 d2.bank, .int .i64 d2.level, .bool d2.zero, .bool d2.carry, .bool d2.on, .bool d2.halt, .slice A2 16 c2], .agg #[.slice B20 256 e20, .slice B21 32 e21, .slice B22 256 e22, .slice B23 16 e23, .int .i64 m2.s]]) (results_cc Try.results99 rfl rfl R1 R2 Try.underlying50 rfl infoCpu9 Try.underlying28 rfl infoMem5) rfl ?_
  have hbW := HC.out.lowSize hb157 (Nat.le_of_lt X153.out.lt) (by have := Z2.out; have := Z30.out; have := Z68.out; have := Z78.out; have := Z86.out; have := Z138.out; have := Z148.out; have := Z158.out; omega)
  rw [HD.out, HM.out]
  exact ⟨_, _, _, _, _, _, _, _, _, _, rfl, Lib.hid ⟨HOk.out.at ht0 ht1, (F155.out.off2 X153.out X154.out (by simp) (by simp) HC.out).2⟩, Lib.hid (F156.out.off2 X153.out X154.out (by simp) (by simp) HC.out), hbW⟩
end Go.Proofs.Ytngoijchebfolaa
