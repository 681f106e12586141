/- Texts of this claim, one behind the other: BusSpec, MemOwn, CpuSpec, GenK, GenChannel, Open, GenRChannel, DmaMath, DmaOk, RowsG, RowsK, Clone9, SetCh, DmaMath2. -/
import Derived.Deep.Slices
import Derived.Lib.SmallJoins
import Derived.Lib.SliceRun
import Derived.Test.YtagdclbpgkilgaaM4
/- The model's l05Get, l05Put, l05Own, BusGet and BusPut. Written by gen_busspec.py. -/
namespace Go.Proofs.Ytagdclbpgkilgaa
open Go.RowKit

section
variable (A0 A1 A2 A3 : Option Addr) (c0 c1 c2 c3 : Nat) (d0 d1 d2 : List Int) (d3 : List Bool) (d4 : Int) (w : World)
set_option maxRecDepth 100000 in
theorem l05Get (k : Nat) (hk : k < 4096) (l0 : d0.length = 256) (l1 : d1.length = 32) (l2 : d2.length = 256) (l3 : d3.length = 16) (h0 : IntL w A0 d0) (h1 : IntL w A1 d1) (h2 : IntL w A2 d2) (h3 : BoolL w A3 d3) :
    Calls Try.prog 84 #[.agg #[.slice A0 256 c0, .slice A1 32 c1, .slice A2 256 c2, .slice A3 16 c3, .int .i64 d4], .int .i64 k] w fun e w' => e = .returned (.int .i64 (getV d0 d1 d2 d3 readV d4 k)) ∧ Below w.heap.size w w' := by
  have hb0 := alloc_below w (.cells #[.slice A0 256 c0, .slice A1 32 c1, .slice A2 256 c2, .slice A3 16 c3, .int .i64 d4] 28)
  have HRe := Lib.hid (fun W => l05Region (k : Int) W (by omega) (by omega))
  have H := Lib.hid (And.intro (And.intro l0 (And.intro l1 (And.intro l2 l3))) (And.intro (h0.below hb0) (And.intro (h1.below hb0) (And.intro (h2.below hb0) (h3.below hb0)))))
  obtain ⟨r, hv⟩ : ∃ r, getV d0 d1 d2 d3 readV d4 k = r := ⟨_, rfl⟩
  rw [hv]
  have HV := Lib.hid hv
  clear l0 l1 l2 l3 h0 h1 h2 h3 hv
  rcases reg_ways k hk with ⟨q1, e1, e2⟩ | ⟨q1, q2, e1, e2⟩ | ⟨q1, q2, e1, e2⟩ | ⟨q1, q2, e1, e2⟩
  · rw [e1, e2] at HRe
    have HE : Hid (r = d0.getD k 0) := Lib.hid (by rw [← HV.out]; unfold getV; rw [e1, e2, if_pos rfl]; rfl)
    clear e1 e2 HV
    obtain ⟨bb, off, rfl, hc⟩ := H.out.2.1 k (by have := H.out.1.1; omega)
    generalize d0.getD k 0 = x at hc HE
    have hi : (k : Int) < 256 := by omega
    go_enter Try.func84, Try.ntmps84
    go_wp2_with fail
    refine (HRe.out _).mono ?_
    rintro e w1 ⟨rfl, rfl⟩
    go_wp2
    go_ret
    exact ⟨ret_int HE.out.symm, hb0⟩
  · rw [e1, e2] at HRe
    have HE : Hid (r = d1.getD (k - 256) 0) := Lib.hid (by rw [← HV.out]; unfold getV; rw [e1, e2, if_neg (by omega), if_pos rfl]; rfl)
    clear e1 e2 HV
    obtain ⟨j, hj⟩ : ∃ j, k - 256 = j := ⟨_, rfl⟩
    rw [hj] at HRe HE
    have hj32 : j < 32 := by omega
    clear hj
    obtain ⟨bb, off, rfl, hc⟩ := H.out.2.2.1 j (by have := H.out.1.2.1; omega)
    generalize d1.getD j 0 = x at hc HE
    have hi : (j : Int) < 32 := by omega
    go_enter Try.func84, Try.ntmps84
    go_wp2_with fail
    refine (HRe.out _).mono ?_
    rintro e w1 ⟨rfl, rfl⟩
    go_wp2
    go_ret
    exact ⟨ret_int HE.out.symm, hb0⟩
  · rw [e1, e2] at HRe
    have HE : Hid (r = readV d2 d3 d4 (k - 512)) := Lib.hid (by rw [← HV.out]; unfold getV; rw [e1, e2, if_neg (by omega), if_neg (by omega), if_pos rfl]; rfl)
    clear e1 e2 HV
    obtain ⟨j, hj⟩ : ∃ j, k - 512 = j := ⟨_, rfl⟩
    rw [hj] at HRe HE
    have hj32 : j ≤ 255 := by omega
    clear hj
    have HM := Lib.hid (l03Read A2 A3 256 c2 c3 j d4 d2 d3 _ H.out.1.2.2.1 rfl H.out.1.2.2.2 hj32 H.out.2.2.2.1 H.out.2.2.2.2)
    go_enter Try.func84, Try.ntmps84
    go_wp2_with fail
    refine (HRe.out _).mono ?_
    rintro e w1 ⟨rfl, rfl⟩
    go_wp2_with fail
    refine HM.out.mono ?_
    rintro e w3 ⟨rfl, hb3⟩
    go_wp2
    go_ret
    exact ⟨ret_int HE.out.symm, bt hb0 hb3⟩
  · rw [e1, e2] at HRe
    have HE : Hid (r = 255) := Lib.hid (by rw [← HV.out]; unfold getV; rw [e1, if_neg (by omega), if_neg (by omega), if_neg (by omega)])
    clear e1 e2 HV H
    go_enter Try.func84, Try.ntmps84
    go_wp2_with fail
    refine (HRe.out _).mono ?_
    rintro e w1 ⟨rfl, rfl⟩
    go_wp2
    go_ret
    exact ⟨ret_int HE.out.symm, hb0⟩

/-- A memory that reads so; its rows may be the argument's. -/
def ReadsMem (r i zs : List Int) (gs : List Bool) (st : Int) (w : World) (e : Ending) (w' : World) : Prop :=
  ∃ A0 A1 A2 A3 c0 c1 c2 c3, e = .returned (.agg #[.slice A0 256 c0, .slice A1 32 c1, .slice A2 256 c2, .slice A3 16 c3, .int .i64 st]) ∧ Hid (IntL w' A0 r ∧ IntL w' A1 i ∧ IntL w' A2 zs ∧ BoolL w' A3 gs) ∧ Below w.heap.size w w'

/-- l03Write's flash, as it reads in a later world. -/
def LaterFlash (zs : List Int) (gs : List Bool) (st : Int) (w W : World) (e : Ending) (w1 : World) : Prop :=
  ∃ A n c C m d, e = .returned (.agg #[.slice A n c, .slice C m d, .int .i64 st]) ∧ Hid (zs.length = n) ∧ Hid (gs.length = m) ∧ Hid (∀ W', Below w.heap.size w W' → (∀ (lo hi : Nat), (∀ D ds, OwnI w1 lo hi D ds → OwnI W' lo hi D ds) ∧ (∀ D ds, OwnB w1 lo hi D ds → OwnB W' lo hi D ds)) → IntL W' A zs ∧ BoolL W' C gs) ∧ Below W.heap.size W w1
set_option maxRecDepth 100000 in
theorem l03WriteM (A C : Option Addr) (c d k v : Nat) (st : Int) (zs : List Int) (gs : List Bool) (w0 W : World) (hk : k < 256) (hv : v < 256) (hs : 0 ≤ st ∧ st ≤ 8) (hz : ∀ z ∈ zs, 0 ≤ z ∧ z ≤ 255) (h : FlashAt W A C zs gs) (h2 : IntL w0 A zs) (h3 : BoolL w0 C gs) (_hb : Below w0.heap.size w0 W) :
    Calls Try.prog 99 #[.agg #[.slice A 256 c, .slice C 16 d, .int .i64 st], .int .i64 k, .int .i64 v] W (LaterFlash (cycZ zs gs st k v) (cycG gs st k) (nextS st k v) w0 W) := by
  refine (l03Write0 A C c d k v st zs gs W hk hv hs hz h).mono ?_
  rintro e w' (⟨A', n, c', C', m, d', rfl, L, M, S, Q, k⟩ | ⟨q1, q2, rfl, q4⟩)
  · exact ⟨A', n, c', C', m, d', rfl, L, M, Lib.hid (fun W' _ q => ⟨((q _ _).1 _ _ S.out).reads, ((q _ _).2 _ _ Q.out).reads⟩), k⟩
  · rw [q1, q2]
    exact ⟨A, 256, c, C, 16, d, rfl, Lib.hid h.1.1, Lib.hid h.1.2, Lib.hid (fun W' f _ => ⟨h2.below f, h3.below f⟩), q4⟩

set_option maxRecDepth 100000 in
set_option maxHeartbeats 4000000 in
theorem l05Put (k v : Nat) (hk : k < 4096) (hv : v < 256) (l0 : d0.length = 256) (l1 : d1.length = 32) (l2 : d2.length = 256) (l3 : d3.length = 16) (hs : 0 ≤ d4 ∧ d4 ≤ 8) (hz : ∀ z ∈ d2, 0 ≤ z ∧ z ≤ 255) (h0 : IntL w A0 d0) (h1 : IntL w A1 d1) (h2 : IntL w A2 d2) (h3 : BoolL w A3 d3) :
    Calls Try.prog 83 #[.agg #[.slice A0 256 c0, .slice A1 32 c1, .slice A2 256 c2, .slice A3 16 c3, .int .i64 d4], .int .i64 k, .int .i64 v] w (ReadsMem (putR d0 k v) (putI d1 k v) (putZ d2 d3 d4 k v) (putG d3 d4 k) (putS d4 k v) w) := by
  obtain ⟨W0, hW0⟩ : ∃ W0, W0 = ((w.alloc (.cells #[.slice A0 256 c0, .slice A1 32 c1, .slice A2 256 c2, .slice A3 16 c3, .int .i64 d4] 28)).alloc (.cells #[.slice none 0 0, .slice none 0 0, .slice none 0 0, .slice none 0 0, .int .i64 0] 28)) := ⟨_, rfl⟩
  have hb0 : Below w.heap.size w W0 := by rw [hW0]; exact bt (alloc_below _ _) (alloc_below _ _)
  have X0 : Hid (Box W0 w.heap.size 28 #[.slice A0 256 c0, .slice A1 32 c1, .slice A2 256 c2, .slice A3 16 c3, .int .i64 d4]) := Lib.hid (by rw [hW0]; exact (Box.new _ _ _).alloc _)
  have Y0 : Hid (Box W0 (w.heap.size + 1) 28 #[.slice none 0 0, .slice none 0 0, .slice none 0 0, .slice none 0 0, .int .i64 0]) := Lib.hid (by rw [hW0]; simpa using Box.new (w.alloc (.cells #[.slice A0 256 c0, .slice A1 32 c1, .slice A2 256 c2, .slice A3 16 c3, .int .i64 d4] 28)) 28 #[.slice none 0 0, .slice none 0 0, .slice none 0 0, .slice none 0 0, .int .i64 0])
  have HRe := Lib.hid (fun W => l05Region (k : Int) W (by omega) (by omega))
  have H := Lib.hid (And.intro (And.intro l0 (And.intro l1 (And.intro l2 l3))) (And.intro h0 (And.intro h1 (And.intro h2 h3))))
  have HSt := Lib.hid (And.intro hs hz)
  have HW0 := Lib.hid hW0
  clear l0 l1 l2 l3 h0 h1 h2 h3 hs hz hW0
  rcases reg_ways k hk with ⟨q1, e1, e2⟩ | ⟨q1, q2, e1, e2⟩ | ⟨q1, q2, e1, e2⟩ | ⟨q1, q2, e1, e2⟩
  · rw [show putR d0 k v = d0.set k v from by unfold putR; rw [if_pos e1, e2]; rfl, show putI d1 k v = d1 from by unfold putI; rw [if_neg (by rw [e1]; omega)], show putZ d2 d3 d4 k v = d2 from by unfold putZ; rw [if_neg (by rw [e1]; omega)], show putG d3 d4 k = d3 from by unfold putG; rw [if_neg (by rw [e1]; omega)], show putS d4 k v = d4 from by unfold putS; rw [if_neg (by rw [e1]; omega)]]
    rw [e1, e2] at HRe
    clear e1 e2
    have hi : (k : Int) < 256 := by omega
    have HS := Lib.hid (fun W (hb : Below w.heap.size w W) => (H.out.2.1.below hb).src (by have := H.out.1.1; omega))
    have HC : Hid ((cellsI d0).length = 256 * 1) := Lib.hid (by rw [cellsI_len]; have := H.out.1.1; omega)
    have hba := bt hb0 (alloc_below W0 (.cells #[] 3))
    have x0 : (W0.alloc (.cells #[] 3)).cell? ⟨w.heap.size, 0, none⟩ = some (.slice A0 256 c0) := (X0.out.alloc _).cell 0 rfl
    go_enter Try.func83, Try.ntmps83
    go_wp2_with fail
    rw [← HW0.out]
    refine (HRe.out _).mono ?_
    rintro e w1 ⟨rfl, rfl⟩
    go_wp2_with (first | (with_reducible refine wpList_app_fresh rfl (.tmp 17) (.tmp 19) 23 rfl 3 (.int .i64 0) 1 8 Try.underlying23 infoIx rfl (by decide) _ rfl A0 256 c0 (by omega) (cellsI d0) rfl HC.out (HS.out _ hba) (by unfold maxLen; omega) (by omega) ?_))
    intro B e w1 hb1 O1
    have hk1 := (alloc_below W0 (.cells #[] 3)).trans (hb1.mono (by omega))
    have X1 := X0.out.step hk1
    have Y1 := Y0.out.step hk1
    have S1 := ownI_fresh (lo := w.heap.size) O1.out (by omega) (by have := hb0.size; omega)
    obtain ⟨w2, hw2⟩ : ∃ w2, w2 = w1.setCell ⟨w.heap.size, 0, none⟩ (.slice B 256 e) := ⟨_, rfl⟩
    have X2 : Box w2 w.heap.size 28 #[.slice B 256 e, .slice A1 32 c1, .slice A2 256 c2, .slice A3 16 c3, .int .i64 d4] := by rw [hw2]; exact X1.set 0 _
    have Y2 : Box w2 (w.heap.size + 1) 28 #[.slice none 0 0, .slice none 0 0, .slice none 0 0, .slice none 0 0, .int .i64 0] := by rw [hw2]; exact Y1.far (p := ⟨w.heap.size, 0, none⟩) (by show w.heap.size + 1 ≠ w.heap.size; omega) _
    have S2 : OwnI w2 w.heap.size w1.heap.size B d0 := by rw [hw2]; exact S1.farB X1 (by decide) 0 _
    have hb2 : Below w.heap.size w w2 := by rw [hw2]; exact (bt hb0 hk1).setCell (Nat.le_refl _) _
    obtain ⟨ba, ma, fa, rfl, hca, hfa, hlo, hhi, hra, hput⟩ := S2.put k (by have := H.out.1.1; omega)
    have k0 := X1.cell 0 rfl
    have k0z := X1.frozen 0
    have m0 := X2.cell 0 rfl
    generalize (d0).getD k 0 = y at hca
    have X3 := X2.other hra (by decide) k (.int .i64 v)
    have Y3 := Y2.other hra (by decide) k (.int .i64 v)
    have hb3 : Below w.heap.size w (w2.setCell ⟨ba, k, none⟩ (.int .i64 v)) := hb2.setCell (p := ⟨ba, k, none⟩) hlo _
    have HR3 := Lib.hid (hput v)
    have HY3 := Lib.hid (And.intro Y3 hb3)
    have x0 := X3.cell 0 rfl
    have x1 := X3.cell 1 rfl
    have x2 := X3.cell 2 rfl
    have x3 := X3.cell 3 rfl
    have x4 := X3.cell 4 rfl
    have s0 := Y3.cell 0 rfl
    have s1 := Y3.cell 1 rfl
    have s2 := Y3.cell 2 rfl
    have s3 := Y3.cell 3 rfl
    have s4 := Y3.cell 4 rfl
    have s0z := Y3.frozen 0
    have s1z := Y3.frozen 1
    have s2z := Y3.frozen 2
    have s3z := Y3.frozen 3
    have s4z := Y3.frozen 4
    have HW2 := Lib.hid hw2
    rw [hw2] at hca hfa m0 x0 x1 x2 x3 x4 s0 s1 s2 s3 s4 s0z s1z s2z s3z s4z
    clear hw2 hk1 X1 Y1 S1 X2 Y2 S2 X3 Y3 hput hra hb3 hb2 hlo hhi O1 hba HS HC hb1
    go_wp2
    refine bodyPost_ret (v := .agg #[.slice (some ⟨ba, 0, none⟩) 256 e, .slice A1 32 c1, .slice A2 256 c2, .slice A3 16 c3, .int .i64 d4]) (by simp [results, Try.results83, go_sem, s0, s1, s2, s3, s4]) rfl ?_
    rw [← HW2.out]
    exact have f := below5 HY3.out.2 (by omega) _ _ _ _ _; ⟨_, A1, A2, A3, e, c1, c2, c3, rfl, Lib.hid ⟨(HR3.out.far5 HY3.out.1 _ _ _ _ _).reads, H.out.2.2.1.below f, H.out.2.2.2.1.below f, H.out.2.2.2.2.below f⟩, f⟩
  · obtain ⟨j, hj⟩ : ∃ j, k - 256 = j := ⟨_, rfl⟩
    rw [hj] at e2
    have hj32 : j < 32 := by omega
    by_cases hj0 : 0 < j
    · rw [show putI d1 k v = d1.set j v from by unfold putI; rw [if_pos ⟨e1, by rw [e2]; omega⟩, e2]; rfl, show putR d0 k v = d0 from by unfold putR; rw [if_neg (by rw [e1]; omega)], show putZ d2 d3 d4 k v = d2 from by unfold putZ; rw [if_neg (by rw [e1]; omega)], show putG d3 d4 k = d3 from by unfold putG; rw [if_neg (by rw [e1]; omega)], show putS d4 k v = d4 from by unfold putS; rw [if_neg (by rw [e1]; omega)]]
      rw [e1, e2] at HRe
      clear e1 e2 hj
      have hi : (j : Int) < 32 := by omega
      have hjp : (0 : Int) < (j : Int) := by omega
      have HS := Lib.hid (fun W (hb : Below w.heap.size w W) => (H.out.2.2.1.below hb).src (by have := H.out.1.2.1; omega))
      have HC : Hid ((cellsI d1).length = 32 * 1) := Lib.hid (by rw [cellsI_len]; have := H.out.1.2.1; omega)
      have hba := bt hb0 (alloc_below W0 (.cells #[] 3))
      have x1 : (W0.alloc (.cells #[] 3)).cell? ⟨w.heap.size, 1, none⟩ = some (.slice A1 32 c1) := (X0.out.alloc _).cell 1 rfl
      go_enter Try.func83, Try.ntmps83
      go_wp2_with fail
      rw [← HW0.out]
      refine (HRe.out _).mono ?_
      rintro e w1 ⟨rfl, rfl⟩
      go_wp2_with (first | (with_reducible refine wpList_app_fresh rfl (.tmp 34) (.tmp 36) 23 rfl 3 (.int .i64 0) 1 8 Try.underlying23 infoIx rfl (by decide) _ rfl A1 32 c1 (by omega) (cellsI d1) rfl HC.out (HS.out _ hba) (by unfold maxLen; omega) (by omega) ?_))
      intro B e w1 hb1 O1
      have hk1 := (alloc_below W0 (.cells #[] 3)).trans (hb1.mono (by omega))
      have X1 := X0.out.step hk1
      have Y1 := Y0.out.step hk1
      have S1 := ownI_fresh (lo := w.heap.size) O1.out (by omega) (by have := hb0.size; omega)
      obtain ⟨w2, hw2⟩ : ∃ w2, w2 = w1.setCell ⟨w.heap.size, 1, none⟩ (.slice B 32 e) := ⟨_, rfl⟩
      have X2 : Box w2 w.heap.size 28 #[.slice A0 256 c0, .slice B 32 e, .slice A2 256 c2, .slice A3 16 c3, .int .i64 d4] := by rw [hw2]; exact X1.set 1 _
      have Y2 : Box w2 (w.heap.size + 1) 28 #[.slice none 0 0, .slice none 0 0, .slice none 0 0, .slice none 0 0, .int .i64 0] := by rw [hw2]; exact Y1.far (p := ⟨w.heap.size, 1, none⟩) (by show w.heap.size + 1 ≠ w.heap.size; omega) _
      have S2 : OwnI w2 w.heap.size w1.heap.size B d1 := by rw [hw2]; exact S1.farB X1 (by decide) 1 _
      have hb2 : Below w.heap.size w w2 := by rw [hw2]; exact (bt hb0 hk1).setCell (Nat.le_refl _) _
      obtain ⟨ba, ma, fa, rfl, hca, hfa, hlo, hhi, hra, hput⟩ := S2.put j (by have := H.out.1.2.1; omega)
      have k0 := X1.cell 1 rfl
      have k0z := X1.frozen 1
      have m0 := X2.cell 1 rfl
      generalize (d1).getD j 0 = y at hca
      have X3 := X2.other hra (by decide) j (.int .i64 v)
      have Y3 := Y2.other hra (by decide) j (.int .i64 v)
      have hb3 : Below w.heap.size w (w2.setCell ⟨ba, j, none⟩ (.int .i64 v)) := hb2.setCell (p := ⟨ba, j, none⟩) hlo _
      have HR3 := Lib.hid (hput v)
      have HY3 := Lib.hid (And.intro Y3 hb3)
      have x0 := X3.cell 0 rfl
      have x1 := X3.cell 1 rfl
      have x2 := X3.cell 2 rfl
      have x3 := X3.cell 3 rfl
      have x4 := X3.cell 4 rfl
      have s0 := Y3.cell 0 rfl
      have s1 := Y3.cell 1 rfl
      have s2 := Y3.cell 2 rfl
      have s3 := Y3.cell 3 rfl
      have s4 := Y3.cell 4 rfl
      have s0z := Y3.frozen 0
      have s1z := Y3.frozen 1
      have s2z := Y3.frozen 2
      have s3z := Y3.frozen 3
      have s4z := Y3.frozen 4
      have HW2 := Lib.hid hw2
      rw [hw2] at hca hfa m0 x0 x1 x2 x3 x4 s0 s1 s2 s3 s4 s0z s1z s2z s3z s4z
      clear hw2 hk1 X1 Y1 S1 X2 Y2 S2 X3 Y3 hput hra hb3 hb2 hlo hhi O1 hba HS HC hb1
      go_wp2
      refine bodyPost_ret (v := .agg #[.slice A0 256 c0, .slice (some ⟨ba, 0, none⟩) 32 e, .slice A2 256 c2, .slice A3 16 c3, .int .i64 d4]) (by simp [results, Try.results83, go_sem, s0, s1, s2, s3, s4]) rfl ?_
      rw [← HW2.out]
      exact have f := below5 HY3.out.2 (by omega) _ _ _ _ _; ⟨A0, _, A2, A3, c0, e, c2, c3, rfl, Lib.hid ⟨H.out.2.1.below f, (HR3.out.far5 HY3.out.1 _ _ _ _ _).reads, H.out.2.2.2.1.below f, H.out.2.2.2.2.below f⟩, f⟩
    · obtain rfl : j = 0 := by omega
      rw [show putI d1 k v = d1 from by unfold putI; rw [if_neg (by rw [e2]; omega)], show putR d0 k v = d0 from by unfold putR; rw [if_neg (by rw [e1]; omega)], show putZ d2 d3 d4 k v = d2 from by unfold putZ; rw [if_neg (by rw [e1]; omega)], show putG d3 d4 k = d3 from by unfold putG; rw [if_neg (by rw [e1]; omega)], show putS d4 k v = d4 from by unfold putS; rw [if_neg (by rw [e1]; omega)]]
      rw [e1, e2] at HRe
      clear e1 e2 hj hj0
      have x0 := X0.out.cell 0 rfl
      have x1 := X0.out.cell 1 rfl
      have x2 := X0.out.cell 2 rfl
      have x3 := X0.out.cell 3 rfl
      have x4 := X0.out.cell 4 rfl
      have s0 := Y0.out.cell 0 rfl
      have s1 := Y0.out.cell 1 rfl
      have s2 := Y0.out.cell 2 rfl
      have s3 := Y0.out.cell 3 rfl
      have s4 := Y0.out.cell 4 rfl
      have s0z := Y0.out.frozen 0
      have s1z := Y0.out.frozen 1
      have s2z := Y0.out.frozen 2
      have s3z := Y0.out.frozen 3
      have s4z := Y0.out.frozen 4
      go_enter Try.func83, Try.ntmps83
      go_wp2_with fail
      rw [← HW0.out]
      refine (HRe.out _).mono ?_
      rintro e w1 ⟨rfl, rfl⟩
      go_wp2
      refine bodyPost_ret (v := .agg #[.slice A0 256 c0, .slice A1 32 c1, .slice A2 256 c2, .slice A3 16 c3, .int .i64 d4]) (by simp [results, Try.results83, go_sem, s0, s1, s2, s3, s4]) rfl ?_
      exact have f := below5 hb0 (by omega) _ _ _ _ _; ⟨A0, A1, A2, A3, c0, c1, c2, c3, rfl, Lib.hid ⟨H.out.2.1.below f, H.out.2.2.1.below f, H.out.2.2.2.1.below f, H.out.2.2.2.2.below f⟩, f⟩
  · obtain ⟨j, hj⟩ : ∃ j, k - 512 = j := ⟨_, rfl⟩
    rw [hj] at e2
    have hj32 : j < 256 := by omega
    rw [show putZ d2 d3 d4 k v = cycZ d2 d3 d4 j v from by unfold putZ; rw [if_pos e1, e2]; rfl, show putG d3 d4 k = cycG d3 d4 j from by unfold putG; rw [if_pos e1, e2]; rfl, show putS d4 k v = nextS d4 j v from by unfold putS; rw [if_pos e1, e2], show putR d0 k v = d0 from by unfold putR; rw [if_neg (by rw [e1]; omega)], show putI d1 k v = d1 from by unfold putI; rw [if_neg (by rw [e1]; omega)]]
    rw [e1, e2] at HRe
    clear e1 e2 hj
    have HM := Lib.hid (l03WriteM A2 A3 c2 c3 j v d4 d2 d3 w W0 hj32 hv HSt.out.1 HSt.out.2 ⟨⟨H.out.1.2.2.1, H.out.1.2.2.2⟩, H.out.2.2.2.1.below hb0, H.out.2.2.2.2.below hb0⟩ H.out.2.2.2.1 H.out.2.2.2.2 hb0)
    have HLn : Hid ((cycZ d2 d3 d4 j v).length = 256 ∧ (cycG d3 d4 j).length = 16) := Lib.hid ⟨by rw [cycZ_len]; exact H.out.1.2.2.1, by rw [cycG_len]; exact H.out.1.2.2.2⟩
    generalize cycZ d2 d3 d4 j v = r2 at HM HLn ⊢
    generalize cycG d3 d4 j = r3 at HM HLn ⊢
    generalize nextS d4 j v = r4 at HM ⊢
    have x2 := X0.out.cell 2 rfl
    have x3 := X0.out.cell 3 rfl
    have x4 := X0.out.cell 4 rfl
    go_enter Try.func83, Try.ntmps83
    go_wp2_with fail
    rw [← HW0.out]
    refine (HRe.out _).mono ?_
    rintro e w1 ⟨rfl, rfl⟩
    go_wp2_with fail
    refine HM.out.mono ?_
    rintro e w1 ⟨A, n, c, C, m, d, rfl, L, M, S, hb1⟩
    obtain rfl : n = 256 := by have := L.out; have := HLn.out.1; omega
    obtain rfl : m = 16 := by have := M.out; have := HLn.out.2; omega
    have X1 := X0.out.step hb1
    have Y1 := Y0.out.step hb1
    have k2 := X1.cell 2 rfl
    have k3 := X1.cell 3 rfl
    have k4 := X1.cell 4 rfl
    have k2z := X1.frozen 2
    have k3z := X1.frozen 3
    have k4z := X1.frozen 4
    have X2 := ((X1.set 2 (.slice A 256 c)).set 3 (.slice C 16 d)).set 4 (.int .i64 r4)
    have Y2 := ((Y1.far (p := ⟨w.heap.size, 2, none⟩) (by show w.heap.size + 1 ≠ w.heap.size; omega) (.slice A 256 c)).far (p := ⟨w.heap.size, 3, none⟩) (by show w.heap.size + 1 ≠ w.heap.size; omega) (.slice C 16 d)).far (p := ⟨w.heap.size, 4, none⟩) (by show w.heap.size + 1 ≠ w.heap.size; omega) (.int .i64 r4)
    have hb2 : Below w.heap.size w (((w1.setCell ⟨w.heap.size, 2, none⟩ (.slice A 256 c)).setCell ⟨w.heap.size, 3, none⟩ (.slice C 16 d)).setCell ⟨w.heap.size, 4, none⟩ (.int .i64 r4)) := (((bt hb0 hb1).setCell (p := ⟨w.heap.size, 2, none⟩) (Nat.le_refl _) _).setCell (p := ⟨w.heap.size, 3, none⟩) (Nat.le_refl _) _).setCell (p := ⟨w.heap.size, 4, none⟩) (Nat.le_refl _) _
    have HRd := Lib.hid (fun W' (f : Below w.heap.size w W') (q : ∀ (lo hi : Nat), (∀ D ds, OwnI w1 lo hi D ds → OwnI W' lo hi D ds) ∧ (∀ D ds, OwnB w1 lo hi D ds → OwnB W' lo hi D ds)) => S.out W' f q)
    have HX1 := Lib.hid X1
    have x0 := X2.cell 0 rfl
    have x1 := X2.cell 1 rfl
    have x2' := X2.cell 2 rfl
    have x3' := X2.cell 3 rfl
    have x4' := X2.cell 4 rfl
    have s0 := Y2.cell 0 rfl
    have s1 := Y2.cell 1 rfl
    have s2 := Y2.cell 2 rfl
    have s3 := Y2.cell 3 rfl
    have s4 := Y2.cell 4 rfl
    have s0z := Y2.frozen 0
    have s1z := Y2.frozen 1
    have s2z := Y2.frozen 2
    have s3z := Y2.frozen 3
    have s4z := Y2.frozen 4
    have HY2 := Lib.hid (And.intro Y2 hb2)
    clear X1 Y1 X2 Y2 hb2 hb1 S L M HM x2 x3 x4 X0 Y0
    go_wp2
    refine bodyPost_ret (v := .agg #[.slice A0 256 c0, .slice A1 32 c1, .slice A 256 c, .slice C 16 d, .int .i64 r4]) (by simp [results, Try.results83, go_sem, s0, s1, s2, s3, s4]) rfl ?_
    exact have f := below5 HY2.out.2 (by omega) _ _ _ _ _; have q := HRd.out _ f (fun lo hi => ⟨fun D ds O => (((O.farB HX1.out (by decide) 2 _).farB (HX1.out.set 2 _) (by decide) 3 _).farB ((HX1.out.set 2 _).set 3 _) (by decide) 4 _).far5 HY2.out.1 _ _ _ _ _, fun D ds O => (((O.far HX1.out (by decide) 2 _).far (HX1.out.set 2 _) (by decide) 3 _).far ((HX1.out.set 2 _).set 3 _) (by decide) 4 _).far5 HY2.out.1 _ _ _ _ _⟩); ⟨A0, A1, A, C, c0, c1, c, d, rfl, Lib.hid ⟨H.out.2.1.below f, H.out.2.2.1.below f, q.1, q.2⟩, f⟩
  · rw [show putR d0 k v = d0 from by unfold putR; rw [if_neg (by rw [e1]; omega)], show putI d1 k v = d1 from by unfold putI; rw [if_neg (by rw [e1]; omega)], show putZ d2 d3 d4 k v = d2 from by unfold putZ; rw [if_neg (by rw [e1]; omega)], show putG d3 d4 k = d3 from by unfold putG; rw [if_neg (by rw [e1]; omega)], show putS d4 k v = d4 from by unfold putS; rw [if_neg (by rw [e1]; omega)]]
    rw [e1, e2] at HRe
    clear e1 e2
    have x0 := X0.out.cell 0 rfl
    have x1 := X0.out.cell 1 rfl
    have x2 := X0.out.cell 2 rfl
    have x3 := X0.out.cell 3 rfl
    have x4 := X0.out.cell 4 rfl
    have s0 := Y0.out.cell 0 rfl
    have s1 := Y0.out.cell 1 rfl
    have s2 := Y0.out.cell 2 rfl
    have s3 := Y0.out.cell 3 rfl
    have s4 := Y0.out.cell 4 rfl
    have s0z := Y0.out.frozen 0
    have s1z := Y0.out.frozen 1
    have s2z := Y0.out.frozen 2
    have s3z := Y0.out.frozen 3
    have s4z := Y0.out.frozen 4
    go_enter Try.func83, Try.ntmps83
    go_wp2_with fail
    rw [← HW0.out]
    refine (HRe.out _).mono ?_
    rintro e w1 ⟨rfl, rfl⟩
    go_wp2
    refine bodyPost_ret (v := .agg #[.slice A0 256 c0, .slice A1 32 c1, .slice A2 256 c2, .slice A3 16 c3, .int .i64 d4]) (by simp [results, Try.results83, go_sem, s0, s1, s2, s3, s4]) rfl ?_
    exact have f := below5 hb0 (by omega) _ _ _ _ _; ⟨A0, A1, A2, A3, c0, c1, c2, c3, rfl, Lib.hid ⟨H.out.2.1.below f, H.out.2.2.1.below f, H.out.2.2.2.1.below f, H.out.2.2.2.2.below f⟩, f⟩
end
end Go.Proofs.Ytagdclbpgkilgaa

/- The model's l05Own; BusGet and BusPut of the model. Written by gen_memown.py. -/
namespace Go.Proofs.Ytagdclbpgkilgaa
open Go.RowKit

theorem wp_app_fresh {P : Program} {o : Oper} {a : Act} {w : World} {K : Act → World → Prop} {Q : Exit → Act → World → Prop}
    (s x : Operand) (t : TypeId) (hop : o.op = Op.call { callee := Callee.builtin Builtin.append, args := #[s, x], argTypes := #[t, t] })
    (e : TypeId) (z : Value) (size bytes : Nat) (ht : P.underlying t = some (.slice e)) (hi : ∃ i : TypeInfo, P.info? e = some i ∧ i.zero = some z ∧ i.size = size ∧ i.bytes = bytes) (hzs : z.cells.size = size) (hsz : 0 < size) (b : Addr) (hs : a.eval s = .slice (some b) 0 0)
    (A : Option Addr) (m c : Nat) (hm : 0 < m) (news : List Value) (hx : a.eval x = .slice A m c) (hl : news.length = m * size) (hsrc : ∃ ad, A = some ad ∧ ∀ j u, news[j]? = some u → w.cell? (ad.add j) = some u)
    (h63 : m ≤ maxLen) (hbytes : m * bytes ≤ 140737488355328)
    (h : ∀ A' cap w', Below w.heap.size w w' → Hid (w'.ownsRow w.heap.size e size (.slice A' m cap) m news) → K (a.put o.dst (.slice A' m cap)) w') : Oper.wp P o a w K Q := by
  obtain ⟨i, hi, hz, hsize, hby⟩ := hi
  obtain ⟨A', cap, w', hr, h2, h3⟩ := run_app_fresh (P := P) w t o.type e i z size bytes ht hi hz hsize hby hzs hsz b A m c hm news hl hsrc h63 hbytes
  unfold Oper.wp execOp
  simp only [hop, resolve, invoke, builtin, Sem.run_bind, Sem.run_pure, Result.andThen_ok, List.map_toArray, List.map_cons, List.map_nil, hs, hx, hr]
  exact h A' cap w' h2 (Lib.hid h3)

theorem arr15 (T : Array Value) (h : T.size = 15) : ∃ t0 t1 t2 t3 t4 t5 t6 t7 t8 t9 t10 t11 t12 t13 t14 : Value, T = #[t0, t1, t2, t3, t4, t5, t6, t7, t8, t9, t10, t11, t12, t13, t14] := by
  obtain ⟨l⟩ := T
  match l, h with
  | [t0, t1, t2, t3, t4, t5, t6, t7, t8, t9, t10, t11, t12, t13, t14], _ => exact ⟨t0, t1, t2, t3, t4, t5, t6, t7, t8, t9, t10, t11, t12, t13, t14, rfl⟩

/-- A memory of the call's own, of a valid memory's lengths. -/
def GivesMem (r i zs : List Int) (gs : List Bool) (st : Int) (w : World) (e : Ending) (w' : World) : Prop :=
  ∃ A0 A1 A2 A3 c0 c1 c2 c3, e = .returned (.agg #[.slice A0 256 c0, .slice A1 32 c1, .slice A2 256 c2, .slice A3 16 c3, .int .i64 st]) ∧ Hid (OwnA w' w.heap.size w'.heap.size [.slice A0 256 c0, .slice A1 32 c1, .slice A2 256 c2, .slice A3 16 c3] [.I r, .I i, .I zs, .B gs]) ∧ Below w.heap.size w w'
def ownF (M : Nat) (s0 s1 fl : Value) (d0 d1 d2 : List Int) (d3 : List Bool) (st : Int) : Nat → (Nat → Value) → World → Prop
  | 0, t, _ => ∃ b, t 3 = .slice (some b) 0 0
  | 1, t, _ => t 4 = .pointer (some ⟨M, 0, none⟩)
  | 2, t, _ => t 5 = s0
  | 3, t, w => ∃ A c, t 6 = .slice A 256 c ∧ OwnI w M w.heap.size A d0
  | 4, t, _ => ∃ b, t 7 = .slice (some b) 0 0
  | 5, t, _ => t 8 = .pointer (some ⟨M, 1, none⟩)
  | 6, t, _ => t 9 = s1
  | 7, t, w => ∃ g A c A' c', t 6 = .slice A 256 c ∧ t 10 = .slice A' 32 c' ∧ OwnI w M g A d0 ∧ OwnI w g w.heap.size A' d1 ∧ M ≤ g ∧ g ≤ w.heap.size
  | 8, t, _ => t 11 = .pointer (some ⟨M, 2, none⟩)
  | 9, t, _ => t 12 = fl
  | 10, t, w => ∃ g h A c A' c' B e C f, t 6 = .slice A 256 c ∧ t 10 = .slice A' 32 c' ∧ t 13 = .agg #[.slice B 256 e, .slice C 16 f, .int .i64 st] ∧ OwnI w M g A d0 ∧ OwnI w g h A' d1 ∧ OwnI w h w.heap.size B d2 ∧ OwnB w h w.heap.size C d3 ∧ M ≤ g ∧ g ≤ h ∧ h ≤ w.heap.size
  | 11, t, _ => ∃ A c A' c' B e C f, t 6 = .slice A 256 c ∧ t 10 = .slice A' 32 c' ∧ t 13 = .agg #[.slice B 256 e, .slice C 16 f, .int .i64 st] ∧ t 14 = .agg #[.slice A 256 c, .slice A' 32 c', .slice B 256 e, .slice C 16 f, .int .i64 st]
  | 12, t, w => ∃ A c A' c' B e C f, t 6 = .slice A 256 c ∧ t 10 = .slice A' 32 c' ∧ t 13 = .agg #[.slice B 256 e, .slice C 16 f, .int .i64 st] ∧ Box w (M + 1) 28 #[.slice A 256 c, .slice A' 32 c', .slice B 256 e, .slice C 16 f, .int .i64 st]
  | _, _, _ => True
section
variable {M : Nat} {s0 s1 fl : Value} {d0 d1 d2 : List Int} {d3 : List Bool} {st : Int} {w w' : World}
theorem ownF_below (k : Below w.heap.size w w') : ∀ (j : Nat) (t : Nat → Value), ownF M s0 s1 fl d0 d1 d2 d3 st j t w → ownF M s0 s1 fl d0 d1 d2 d3 st j t w'
  | 0, _, h | 1, _, h | 2, _, h | 4, _, h | 5, _, h | 6, _, h | 8, _, h | 9, _, h | 11, _, h => h
  | 3, _, ⟨A, c, e, h⟩ => ⟨A, c, e, (h.below k).wideB (Nat.le_refl _) k.size⟩
  | 7, _, ⟨g, A, c, A', c', e, e2, h, h2, q, q2⟩ => ⟨g, A, c, A', c', e, e2, h.below k, (h2.below k).wideB (Nat.le_refl _) k.size, q, Nat.le_trans q2 k.size⟩
  | 10, _, ⟨g, h, A, c, A', c', B, e, C, f, e1, e2, e3, h1, h2, h3, h4, q, q2, q3⟩ => ⟨g, h, A, c, A', c', B, e, C, f, e1, e2, e3, h1.below k, h2.below k, (h3.below k).wideB (Nat.le_refl _) k.size, (h4.below k).wide (Nat.le_refl _) k.size, q, q2, Nat.le_trans q3 k.size⟩
  | 12, _, ⟨A, c, A', c', B, e, C, f, e1, e2, e3, h⟩ => ⟨A, c, A', c', B, e, C, f, e1, e2, e3, h.step k⟩
  | _ + 13, _, _ => trivial
theorem ownF_store {ys : Array Value} (Y : Box w (M + 1) 28 ys) (i : Nat) (u : Value) : ∀ (j : Nat) (t : Nat → Value), j ≠ 12 → ownF M s0 s1 fl d0 d1 d2 d3 st j t w → ownF M s0 s1 fl d0 d1 d2 d3 st j t (w.setCell ⟨M + 1, i, none⟩ u)
  | 0, _, _, h | 1, _, _, h | 2, _, _, h | 4, _, _, h | 5, _, _, h | 6, _, _, h | 8, _, _, h | 9, _, _, h | 11, _, _, h => h
  | 3, _, _, ⟨A, c, e, h⟩ => ⟨A, c, e, (h.farB Y (by decide) i u).wideB (Nat.le_refl _) (by simp [World.setCell])⟩
  | 7, _, _, ⟨g, A, c, A', c', e, e2, h, h2, q, q2⟩ => ⟨g, A, c, A', c', e, e2, h.farB Y (by decide) i u, (h2.farB Y (by decide) i u).wideB (Nat.le_refl _) (by simp [World.setCell]), q, by simpa [World.setCell] using q2⟩
  | 10, _, _, ⟨g, h, A, c, A', c', B, e, C, f, e1, e2, e3, h1, h2, h3, h4, q, q2, q3⟩ => ⟨g, h, A, c, A', c', B, e, C, f, e1, e2, e3, h1.farB Y (by decide) i u, h2.farB Y (by decide) i u, (h3.farB Y (by decide) i u).wideB (Nat.le_refl _) (by simp [World.setCell]), (h4.far Y (by decide) i u).wide (Nat.le_refl _) (by simp [World.setCell]), q, q2, by simpa [World.setCell] using q3⟩
  | 12, _, n, _ => (n rfl).elim
  | _ + 13, _, _, _ => trivial
end

section
variable (A0 A1 A2 A3 : Option Addr) (c0 c1 c2 c3 : Nat) (d0 d1 d2 : List Int) (d3 : List Bool) (d4 : Int) (w : World)
set_option maxRecDepth 100000 in
set_option maxHeartbeats 8000000 in
theorem l05Own (l0 : d0.length = 256) (l1 : d1.length = 32) (l2 : d2.length = 256) (l3 : d3.length = 16) (h0 : IntL w A0 d0) (h1 : IntL w A1 d1) (h2 : IntL w A2 d2) (h3 : BoolL w A3 d3) :
    Calls Try.prog 53 #[.agg #[.slice A0 256 c0, .slice A1 32 c1, .slice A2 256 c2, .slice A3 16 c3, .int .i64 d4]] w (GivesMem d0 d1 d2 d3 d4 w) := by
  obtain ⟨W0, hW0⟩ : ∃ W0, W0 = ((w.alloc (.cells #[.slice A0 256 c0, .slice A1 32 c1, .slice A2 256 c2, .slice A3 16 c3, .int .i64 d4] 28)).alloc (.cells #[.slice none 0 0, .slice none 0 0, .slice none 0 0, .slice none 0 0, .int .i64 0] 28)) := ⟨_, rfl⟩
  have hb0 : Below w.heap.size w W0 := by rw [hW0]; exact bt (alloc_below _ _) (alloc_below _ _)
  have X0 : Box W0 w.heap.size 28 #[.slice A0 256 c0, .slice A1 32 c1, .slice A2 256 c2, .slice A3 16 c3, .int .i64 d4] := by rw [hW0]; exact (Box.new _ _ _).alloc _
  have Y0 : Box W0 (w.heap.size + 1) 28 #[.slice none 0 0, .slice none 0 0, .slice none 0 0, .slice none 0 0, .int .i64 0] := by rw [hW0]; simpa using Box.new (w.alloc (.cells #[.slice A0 256 c0, .slice A1 32 c1, .slice A2 256 c2, .slice A3 16 c3, .int .i64 d4] 28)) 28 #[.slice none 0 0, .slice none 0 0, .slice none 0 0, .slice none 0 0, .int .i64 0]
  have HB : Hid (∀ W, RM W0 w.heap.size W → Below w.heap.size w W) := Lib.hid (fun W r => hb0.trans (r.1.mono (by omega)))
  have HO := Lib.hid (fun W (r : RM W0 w.heap.size W) => l03Own A2 A3 256 c2 16 c3 d4 d2 d3 W l2 l3 rfl rfl (h2.below (HB.out _ r)) (h3.below (HB.out _ r)))
  have HS0 := Lib.hid (fun W (r : RM W0 w.heap.size W) => (h0.below (HB.out _ r)).src (by omega))
  have HS1 := Lib.hid (fun W (r : RM W0 w.heap.size W) => (h1.below (HB.out _ r)).src (by omega))
  have HN0 : Hid ((cellsI d0).length = 256 * 1) := Lib.hid (by rw [cellsI_len]; omega)
  have HN1 : Hid ((cellsI d1).length = 32 * 1) := Lib.hid (by rw [cellsI_len]; omega)
  have HL := Lib.hid (And.intro l2 l3)
  have HL0 := Lib.hid (And.intro l0 l1)
  have HK : Hid (∀ W', RM W0 w.heap.size W' → W'.cell? ⟨w.heap.size, 0, none⟩ = some (.slice A0 256 c0) ∧ W'.cell? ⟨w.heap.size, 1, none⟩ = some (.slice A1 32 c1) ∧ W'.cell? ⟨w.heap.size, 2, none⟩ = some (.slice A2 256 c2) ∧ W'.cell? ⟨w.heap.size, 3, none⟩ = some (.slice A3 16 c3) ∧ W'.cell? ⟨w.heap.size, 4, none⟩ = some (.int .i64 d4)) := Lib.hid (fun W' r => by
    have X := X0.below r.1 (by omega)
    exact ⟨X.cell 0 rfl, X.cell 1 rfl, X.cell 2 rfl, X.cell 3 rfl, X.cell 4 rfl⟩)
  have HW0 := Lib.hid hW0
  have R0 : RM W0 w.heap.size W0.drew := ⟨(Below.refl _ _).drew, Nat.le_refl _, _, rfl, Y0⟩
  clear l0 l1 l2 l3 h0 h1 h2 h3 X0 Y0 hW0 hb0
  go_enter Try.func53, Try.ntmps53
  go_wp2
  rw [← HW0.out]
  refine wp_region_facts (by kernel_rfl) [[3], [4], [5], [6], [7], [8], [9], [6, 10], [11], [12], [6, 10, 13], [6, 10, 13, 14], [6, 10, 13]] [[], [], [1], [0, 1, 2], [], [], [5], [4, 5, 6, 3, 0, 1, 2], [], [8], [8, 9, 7, 4, 5, 6, 3, 0, 1, 2], [10, 8, 9, 7, 4, 5, 6, 3, 0, 1, 2], [0, 1, 2, 3, 4, 5, 6, 7, 8, 9, 10, 11]] [0, 1, 2] (by kernel_rfl) (RM W0 w.heap.size) (ownF w.heap.size (.slice A0 256 c0) (.slice A1 32 c1) (.agg #[.slice A2 256 c2, .slice A3 16 c3, .int .i64 d4]) d0 d1 d2 d3 d4) R0 ?_ ?_
  · refine ⟨?_, ?_, ?_, ?_, ?_, ?_, ?_, ?_, ?_, ?_, ?_, ?_, ?_, trivial⟩
    · intro T W hT hs hC hF K hK
      obtain ⟨t0, t1, t2, t3, t4, t5, t6, t7, t8, t9, t10, t11, t12, t13, t14, rfl⟩ := arr15 T hT
      obtain rfl : t1 = .pointer (some ⟨w.heap.size, 0, none⟩) := hs 1 (by decide)
      obtain rfl : t2 = .pointer (some ⟨w.heap.size + 1, 0, none⟩) := hs 2 (by decide)
      clear hF hs hT
      have k := alloc_below W (.cells #[] 3)
      go_simp
      exact hK.out _ _ (hC.alloc _) (fun j t _ h => ownF_below k j t h) ⟨_, rfl⟩
    · intro T W hT hs hC hF K hK
      obtain ⟨t0, t1, t2, t3, t4, t5, t6, t7, t8, t9, t10, t11, t12, t13, t14, rfl⟩ := arr15 T hT
      obtain rfl : t1 = .pointer (some ⟨w.heap.size, 0, none⟩) := hs 1 (by decide)
      obtain rfl : t2 = .pointer (some ⟨w.heap.size + 1, 0, none⟩) := hs 2 (by decide)
      clear hF hs hT
      go_simp
      exact hK.out _ W hC (fun _ _ _ h => h) rfl
    · intro T W hT hs hC hF K hK
      obtain ⟨t0, t1, t2, t3, t4, t5, t6, t7, t8, t9, t10, t11, t12, t13, t14, rfl⟩ := arr15 T hT
      obtain rfl : t1 = .pointer (some ⟨w.heap.size, 0, none⟩) := hs 1 (by decide)
      obtain rfl : t2 = .pointer (some ⟨w.heap.size + 1, 0, none⟩) := hs 2 (by decide)
      have f1 := hF 1 (by decide)
      simp only [ownF, mask] at f1
      clear hF hs hT
      subst f1
      have k := (HK.out W hC).1
      go_simp
      exact hK.out _ W hC (fun _ _ _ h => h) rfl
    · intro T W hT hs hC hF K hK
      obtain ⟨t0, t1, t2, t3, t4, t5, t6, t7, t8, t9, t10, t11, t12, t13, t14, rfl⟩ := arr15 T hT
      obtain rfl : t1 = .pointer (some ⟨w.heap.size, 0, none⟩) := hs 1 (by decide)
      obtain rfl : t2 = .pointer (some ⟨w.heap.size + 1, 0, none⟩) := hs 2 (by decide)
      have f0 := hF 0 (by decide)
      simp only [ownF, mask] at f0
      have f2 := hF 2 (by decide)
      simp only [ownF, mask] at f2
      clear hF hs hT
      obtain ⟨b, e3⟩ := f0
      subst e3 f2
      refine wp_app_fresh (.tmp 3) (.tmp 5) 23 rfl 3 (.int .i64 0) 1 8 Try.underlying23 infoIx rfl (by decide) b rfl A0 256 c0 (by omega) (cellsI d0) rfl HN0.out (HS0.out _ hC) (by unfold maxLen; omega) (by omega) ?_
      intro A c w1 k O
      exact hK.out _ w1 (hC.step k) (fun j t _ h => ownF_below k j t h) ⟨A, c, rfl, ownI_fresh O.out (by omega) (HB.out _ hC).size⟩
    · intro T W hT hs hC hF K hK
      obtain ⟨t0, t1, t2, t3, t4, t5, t6, t7, t8, t9, t10, t11, t12, t13, t14, rfl⟩ := arr15 T hT
      obtain rfl : t1 = .pointer (some ⟨w.heap.size, 0, none⟩) := hs 1 (by decide)
      obtain rfl : t2 = .pointer (some ⟨w.heap.size + 1, 0, none⟩) := hs 2 (by decide)
      clear hF hs hT
      have k := alloc_below W (.cells #[] 3)
      go_simp
      exact hK.out _ _ (hC.alloc _) (fun j t _ h => ownF_below k j t h) ⟨_, rfl⟩
    · intro T W hT hs hC hF K hK
      obtain ⟨t0, t1, t2, t3, t4, t5, t6, t7, t8, t9, t10, t11, t12, t13, t14, rfl⟩ := arr15 T hT
      obtain rfl : t1 = .pointer (some ⟨w.heap.size, 0, none⟩) := hs 1 (by decide)
      obtain rfl : t2 = .pointer (some ⟨w.heap.size + 1, 0, none⟩) := hs 2 (by decide)
      clear hF hs hT
      go_simp
      exact hK.out _ W hC (fun _ _ _ h => h) rfl
    · intro T W hT hs hC hF K hK
      obtain ⟨t0, t1, t2, t3, t4, t5, t6, t7, t8, t9, t10, t11, t12, t13, t14, rfl⟩ := arr15 T hT
      obtain rfl : t1 = .pointer (some ⟨w.heap.size, 0, none⟩) := hs 1 (by decide)
      obtain rfl : t2 = .pointer (some ⟨w.heap.size + 1, 0, none⟩) := hs 2 (by decide)
      have f5 := hF 5 (by decide)
      simp only [ownF, mask] at f5
      clear hF hs hT
      subst f5
      have k := (HK.out W hC).2.1
      go_simp
      exact hK.out _ W hC (fun _ _ _ h => h) rfl
    · intro T W hT hs hC hF K hK
      obtain ⟨t0, t1, t2, t3, t4, t5, t6, t7, t8, t9, t10, t11, t12, t13, t14, rfl⟩ := arr15 T hT
      obtain rfl : t1 = .pointer (some ⟨w.heap.size, 0, none⟩) := hs 1 (by decide)
      obtain rfl : t2 = .pointer (some ⟨w.heap.size + 1, 0, none⟩) := hs 2 (by decide)
      have f4 := hF 4 (by decide)
      simp only [ownF, mask] at f4
      have f6 := hF 6 (by decide)
      simp only [ownF, mask] at f6
      have f3 := hF 3 (by decide)
      simp only [ownF, mask] at f3
      clear hF hs hT
      obtain ⟨b, e3⟩ := f4
      obtain ⟨A, c, e6, O6⟩ := f3
      subst e3 f6 e6
      have H6 := Lib.hid O6
      clear O6
      refine wp_app_fresh (.tmp 7) (.tmp 9) 23 rfl 3 (.int .i64 0) 1 8 Try.underlying23 infoIx rfl (by decide) b rfl A1 32 c1 (by omega) (cellsI d1) rfl HN1.out (HS1.out _ hC) (by unfold maxLen; omega) (by omega) ?_
      intro A' c' w1 k O
      exact hK.out _ w1 (hC.step k) (fun j t _ h => ownF_below k j t h) ⟨W.heap.size, A, c, A', c', rfl, rfl, H6.out.below k, ownI_fresh O.out (by omega) (Nat.le_refl _), (HB.out _ hC).size, k.size⟩
    · intro T W hT hs hC hF K hK
      obtain ⟨t0, t1, t2, t3, t4, t5, t6, t7, t8, t9, t10, t11, t12, t13, t14, rfl⟩ := arr15 T hT
      obtain rfl : t1 = .pointer (some ⟨w.heap.size, 0, none⟩) := hs 1 (by decide)
      obtain rfl : t2 = .pointer (some ⟨w.heap.size + 1, 0, none⟩) := hs 2 (by decide)
      clear hF hs hT
      go_simp
      exact hK.out _ W hC (fun _ _ _ h => h) rfl
    · intro T W hT hs hC hF K hK
      obtain ⟨t0, t1, t2, t3, t4, t5, t6, t7, t8, t9, t10, t11, t12, t13, t14, rfl⟩ := arr15 T hT
      obtain rfl : t1 = .pointer (some ⟨w.heap.size, 0, none⟩) := hs 1 (by decide)
      obtain rfl : t2 = .pointer (some ⟨w.heap.size + 1, 0, none⟩) := hs 2 (by decide)
      have f8 := hF 8 (by decide)
      simp only [ownF, mask] at f8
      clear hF hs hT
      subst f8
      have k2 := (HK.out W hC).2.2.1
      have k3 := (HK.out W hC).2.2.2.1
      have k4 := (HK.out W hC).2.2.2.2
      go_simp
      exact hK.out _ W hC (fun _ _ _ h => h) rfl
    · intro T W hT hs hC hF K hK
      obtain ⟨t0, t1, t2, t3, t4, t5, t6, t7, t8, t9, t10, t11, t12, t13, t14, rfl⟩ := arr15 T hT
      obtain rfl : t1 = .pointer (some ⟨w.heap.size, 0, none⟩) := hs 1 (by decide)
      obtain rfl : t2 = .pointer (some ⟨w.heap.size + 1, 0, none⟩) := hs 2 (by decide)
      have f9 := hF 9 (by decide)
      simp only [ownF, mask] at f9
      have f7 := hF 7 (by decide)
      simp only [ownF, mask] at f7
      clear hF hs hT
      obtain ⟨g, A, c, A', c', e6, e10, O6, O10, q, q2⟩ := f7
      subst f9 e6 e10
      have H6 := Lib.hid (And.intro O6 O10)
      clear O6 O10
      go_simp
      refine (HO.out W hC).mono ?_
      rintro e w1 ⟨B, n, c', C, m, d, rfl, L, M, S, Q, k⟩
      obtain rfl : n = 256 := by have := L.out; have := HL.out.1; omega
      obtain rfl : m = 16 := by have := M.out; have := HL.out.2; omega
      exact hK.out _ w1 (hC.step k) (fun j t _ h => ownF_below k j t h) ⟨g, W.heap.size, A, _, A', _, B, _, C, _, rfl, rfl, rfl, H6.out.1.below k, H6.out.2.below k, S.out, Q.out, q, q2, k.size⟩
    · intro T W hT hs hC hF K hK
      obtain ⟨t0, t1, t2, t3, t4, t5, t6, t7, t8, t9, t10, t11, t12, t13, t14, rfl⟩ := arr15 T hT
      obtain rfl : t1 = .pointer (some ⟨w.heap.size, 0, none⟩) := hs 1 (by decide)
      obtain rfl : t2 = .pointer (some ⟨w.heap.size + 1, 0, none⟩) := hs 2 (by decide)
      have f10 := hF 10 (by decide)
      simp only [ownF, mask] at f10
      clear hF hs hT
      obtain ⟨g, h, A, c, A', c', B, e, C, f, e6, e10, e13, O6, O10, S, Q, q, q2, q3⟩ := f10
      subst e6 e10 e13
      clear O6 O10 S Q
      go_simp
      exact hK.out _ W hC (fun _ _ _ h => h) ⟨_, _, _, _, _, _, _, _, rfl, rfl, rfl, rfl⟩
    · intro T W hT hs hC hF K hK
      obtain ⟨t0, t1, t2, t3, t4, t5, t6, t7, t8, t9, t10, t11, t12, t13, t14, rfl⟩ := arr15 T hT
      obtain rfl : t1 = .pointer (some ⟨w.heap.size, 0, none⟩) := hs 1 (by decide)
      obtain rfl : t2 = .pointer (some ⟨w.heap.size + 1, 0, none⟩) := hs 2 (by decide)
      have f11 := hF 11 (by decide)
      simp only [ownF, mask] at f11
      clear hF hs hT
      obtain ⟨A, c, A', c', B, e, C, f, e6, e10, e13, e14⟩ := f11
      subst e6 e10 e13 e14
      obtain ⟨hCa, hCb, ys, hys, Y⟩ := hC
      have y0 := YV5.of Y hys 0 (by omega)
      have y1 := YV5.of Y hys 1 (by omega)
      have y2 := YV5.of Y hys 2 (by omega)
      have y3 := YV5.of Y hys 3 (by omega)
      have y4 := YV5.of Y hys 4 (by omega)
      have z0 := Y.frozen 0
      have z1 := Y.frozen 1
      have z2 := Y.frozen 2
      have z3 := Y.frozen 3
      have z4 := Y.frozen 4
      have HYs := Lib.hid (And.intro hys Y)
      have hC : RM W0 w.heap.size W := ⟨hCa, hCb, ys, hys, Y⟩
      clear hys Y hCa hCb
      go_simp
      exact hK.out undef _ (((((hC.set 0 _).set 1 _).set 2 _).set 3 _).set 4 _) (fun j t n h => ownF_store ((((HYs.out.2.set 0 _).set 1 _).set 2 _).set 3 _) 4 _ j t n (ownF_store (((HYs.out.2.set 0 _).set 1 _).set 2 _) 3 _ j t n (ownF_store ((HYs.out.2.set 0 _).set 1 _) 2 _ j t n (ownF_store (HYs.out.2.set 0 _) 1 _ j t n (ownF_store HYs.out.2 0 _ j t n h))))) ⟨_, _, _, _, _, _, _, _, rfl, rfl, rfl, HYs.out.2.all5 HYs.out.1 _ _ _ _ _⟩
  · intro T W hT hs hC hF
    obtain ⟨t0, t1, t2, t3, t4, t5, t6, t7, t8, t9, t10, t11, t12, t13, t14, rfl⟩ := arr15 T hT
    obtain rfl : t1 = .pointer (some ⟨w.heap.size, 0, none⟩) := hs 1 (by decide)
    obtain rfl : t2 = .pointer (some ⟨w.heap.size + 1, 0, none⟩) := hs 2 (by decide)
    obtain ⟨g, h, A, c, A', c', B, e, C, f, e6, e10, e13, O6, O10, S, Q, q, q2, q3⟩ := hF 10 (by decide)
    obtain ⟨x1, x2, x3, x4, x5, x6, x7, x8, f6, f10, f13, Y⟩ := hF 12 (by decide)
    have E1 : Value.slice A 256 c = .slice x1 256 x2 := (show t6 = _ from e6).symm.trans f6
    have E2 : Value.slice A' 32 c' = .slice x3 32 x4 := (show t10 = _ from e10).symm.trans f10
    have E3 : Value.agg #[.slice B 256 e, .slice C 16 f, .int .i64 d4] = .agg #[.slice x5 256 x6, .slice x7 16 x8, .int .i64 d4] := (show t13 = _ from e13).symm.trans f13
    simp only [Value.agg.injEq, Array.mk.injEq, List.cons.injEq, Value.slice.injEq, true_and, and_true] at E1 E2 E3
    obtain ⟨r1, r2⟩ := E1
    obtain ⟨r3, r4⟩ := E2
    obtain ⟨⟨r5, r6⟩, r7, r8⟩ := E3
    subst r1 r2 r3 r4 r5 r6 r7 r8
    have y0 := Y.cell 0 rfl
    have y1 := Y.cell 1 rfl
    have y2 := Y.cell 2 rfl
    have y3 := Y.cell 3 rfl
    have y4 := Y.cell 4 rfl
    have HR : Hid (OwnA W w.heap.size W.heap.size [.slice A 256 c, .slice A' 32 c', .slice B 256 e, .slice C 16 f] [.I d0, .I d1, .I d2, .B d3]) := Lib.hid (by
      have := ownA4 (c0 := c) (c1 := c') (c2 := e) (c3 := f) (L := w.heap.size) (R := W.heap.size) O6 O10 S Q (Nat.le_refl _) q q2 q3 (Nat.le_refl _)
      rwa [HL0.out.1, HL0.out.2, HL.out.1, HL.out.2] at this)
    have HBw := Lib.hid (HB.out _ hC)
    clear e6 e10 e13 f6 f10 f13 O6 O10 S Q Y hF hs hT hC R0
    go_wp2
    refine bodyPost_ret (v := .agg #[.slice A 256 c, .slice A' 32 c', .slice B 256 e, .slice C 16 f, .int .i64 d4]) (by simp [results, Try.results53, go_sem, y0, y1, y2, y3, y4]) rfl ?_
    exact ⟨A, A', B, C, c, c', e, f, rfl, HR, HBw.out⟩
end

section
variable (A0 A1 A2 A3 : Option Addr) (n0 n1 n2 n3 c0 c1 c2 c3 : Nat) (d0 d1 d2 : List Int) (d3 : List Bool) (d4 : Int) (w : World)
theorem putF_bad (r i zs : List Int) (gs : List Bool) (st a v : Int) (h : okMem r i zs gs st = false) : putF r i zs gs st a v = ([], [], [], [], 0, 1) := by unfold putF codeIf; rw [h]; rfl
theorem putF_range (r i zs : List Int) (gs : List Bool) (st a v : Int) (h : okMem r i zs gs st = true) (h2 : (adB a && byB v) = false) : putF r i zs gs st a v = ([], [], [], [], 0, 4) := by unfold putF codeIf; rw [h, h2]; rfl
theorem putF_ok (r i zs : List Int) (gs : List Bool) (st a v : Int) (h : okMem r i zs gs st = true) (h2 : adB a = true) (h3 : byB v = true) : putF r i zs gs st a v = (putR r a v, putI i a v, putZ zs gs st a v, putG gs st a, putS st a v, 0) := by unfold putF codeIf; rw [h, h2, h3]; rfl
theorem OwnA.far5 {w : World} {lo hi : Nat} {B0 B1 B2 B3 : Option Addr} {m0 m1 m2 m3 e0 e1 e2 e3 : Nat} {r0 r1 r2 : List Int} {r3 : List Bool} (h : OwnA w lo hi [.slice B0 m0 e0, .slice B1 m1 e1, .slice B2 m2 e2, .slice B3 m3 e3] [.I r0, .I r1, .I r2, .B r3]) {b : Nat} {cs : Array Value} (X : Box w b 28 cs) (u0 u1 u2 u3 u4 : Value) : OwnA (((((w.setCell ⟨b, 0, none⟩ u0).setCell ⟨b, 1, none⟩ u1).setCell ⟨b, 2, none⟩ u2).setCell ⟨b, 3, none⟩ u3).setCell ⟨b, 4, none⟩ u4) lo hi [.slice B0 m0 e0, .slice B1 m1 e1, .slice B2 m2 e2, .slice B3 m3 e3] [.I r0, .I r1, .I r2, .B r3] := by
  obtain ⟨⟨⟨a0, b0, q0, o0⟩, ⟨a1, b1, q1, o1⟩, ⟨a2, b2, q2, o2⟩, ⟨a3, b3, q3, o3⟩, -⟩, hn⟩ := h
  exact ⟨⟨⟨a0, b0, q0, o0.far5 X _ _ _ _ _⟩, ⟨a1, b1, q1, o1.far5 X _ _ _ _ _⟩, ⟨a2, b2, q2, o2.far5 X _ _ _ _ _⟩, ⟨a3, b3, q3, o3.far5 X _ _ _ _ _⟩, trivial⟩, hn⟩

end
end Go.Proofs.Ytagdclbpgkilgaa

/- The model's processor: its own registers, a register, pushing. Written by gen_cpuspec.py. -/
namespace Go.Proofs.Ytagdclbpgkilgaa
open Go.RowKit

theorem one9 {a b c d : Int} {e f g h : Bool} {A : Option Addr} {n k : Nat} : (#[.int .i64 a, .int .i64 b, .int .i64 c, .int .i64 d, .bool e, .bool f, .bool g, .bool h, .slice A n k] : Array Value).all (·.oneCell') = true := by simp [Value.oneCell']
theorem one5 {A0 A1 A2 A3 : Option Addr} {n0 n1 n2 n3 k0 k1 k2 k3 : Nat} {s : Int} : (#[.slice A0 n0 k0, .slice A1 n1 k1, .slice A2 n2 k2, .slice A3 n3 k3, .int .i64 s] : Array Value).all (·.oneCell') = true := by simp [Value.oneCell']
set_option maxRecDepth 100000 in
theorem infoMem5 : (Try.prog.info? 28).map (·.size) = some 5 := by kernel_rfl
def ReadsM (m : MD) (w : World) (e : Ending) (w' : World) : Prop :=
  ∃ A0 A1 A2 A3 c0 c1 c2 c3, e = .returned (.agg #[.slice A0 256 c0, .slice A1 32 c1, .slice A2 256 c2, .slice A3 16 c3, .int .i64 m.s]) ∧ Hid (RepM w' A0 A1 A2 A3 m) ∧ Below w.heap.size w w'
set_option maxRecDepth 100000 in
theorem l05PutM (A0 A1 A2 A3 : Option Addr) (c0 c1 c2 c3 : Nat) (m : MD) (w : World) (a v : Int) (h0 : 0 ≤ a) (h1 : a ≤ 4095) (hv0 : 0 ≤ v) (hv1 : v ≤ 255) (hm : RepM w A0 A1 A2 A3 m) :
    Calls Try.prog 83 #[.agg #[.slice A0 256 c0, .slice A1 32 c1, .slice A2 256 c2, .slice A3 16 c3, .int .i64 m.s], .int .i64 a, .int .i64 v] w (ReadsM (m.put a v) w) := by
  obtain ⟨k, rfl⟩ : ∃ k : Nat, a = k := ⟨a.toNat, by omega⟩
  obtain ⟨u, rfl⟩ : ∃ u : Nat, v = u := ⟨v.toNat, by omega⟩
  refine (l05Put A0 A1 A2 A3 c0 c1 c2 c3 m.r m.i m.z m.g m.s w k u (by omega) (by omega) hm.1.r hm.1.i hm.1.z hm.1.g hm.1.s hm.1.zb hm.2.1 hm.2.2.1 hm.2.2.2.1 hm.2.2.2.2).mono ?_
  rintro e w' ⟨B0, B1, B2, B3, e0, e1, e2, e3, rfl, N, hb⟩
  exact ⟨B0, B1, B2, B3, e0, e1, e2, e3, rfl, Lib.hid ⟨hm.1.put (by omega) (by omega) (by omega), N.out⟩, hb⟩
set_option maxRecDepth 100000 in
theorem l05GetM (A0 A1 A2 A3 : Option Addr) (c0 c1 c2 c3 : Nat) (m : MD) (w : World) (a : Int) (h0 : 0 ≤ a) (h1 : a ≤ 4095) (hm : RepM w A0 A1 A2 A3 m) :
    Calls Try.prog 84 #[.agg #[.slice A0 256 c0, .slice A1 32 c1, .slice A2 256 c2, .slice A3 16 c3, .int .i64 m.s], .int .i64 a] w fun e w' => e = .returned (.int .i64 (m.get a)) ∧ Below w.heap.size w w' := by
  obtain ⟨k, rfl⟩ : ∃ k : Nat, a = k := ⟨a.toNat, by omega⟩
  exact l05Get A0 A1 A2 A3 c0 c1 c2 c3 m.r m.i m.z m.g m.s w k (by omega) hm.1.r hm.1.i hm.1.z hm.1.g hm.2.1 hm.2.2.1 hm.2.2.2.1 hm.2.2.2.2
def ReadsCM (d : CD) (m : MD) (w : World) (e : Ending) (w' : World) : Prop :=
  ∃ A c A0 A1 A2 A3 c0 c1 c2 c3, e = .returned (.tuple #[.agg #[.int .i64 d.pc, .int .i64 d.sp, .int .i64 d.bank, .int .i64 d.level, .bool d.zero, .bool d.carry, .bool d.on, .bool d.halt, .slice A 16 c], .agg #[.slice A0 256 c0, .slice A1 32 c1, .slice A2 256 c2, .slice A3 16 c3, .int .i64 m.s]]) ∧ Hid (RepC w' A d) ∧ Hid (RepM w' A0 A1 A2 A3 m) ∧ Below w.heap.size w w'

theorem arr30 (T : Array Value) (h : T.size = 30) : ∃ t0 t1 t2 t3 t4 t5 t6 t7 t8 t9 t10 t11 t12 t13 t14 t15 t16 t17 t18 t19 t20 t21 t22 t23 t24 t25 t26 t27 t28 t29 : Value, T = #[t0, t1, t2, t3, t4, t5, t6, t7, t8, t9, t10, t11, t12, t13, t14, t15, t16, t17, t18, t19, t20, t21, t22, t23, t24, t25, t26, t27, t28, t29] := by
  obtain ⟨l⟩ := T
  match l, h with
  | [t0, t1, t2, t3, t4, t5, t6, t7, t8, t9, t10, t11, t12, t13, t14, t15, t16, t17, t18, t19, t20, t21, t22, t23, t24, t25, t26, t27, t28, t29], _ => exact ⟨t0, t1, t2, t3, t4, t5, t6, t7, t8, t9, t10, t11, t12, t13, t14, t15, t16, t17, t18, t19, t20, t21, t22, t23, t24, t25, t26, t27, t28, t29, rfl⟩

end Go.Proofs.Ytagdclbpgkilgaa

/- Lengths and sizes of leaves, leaf by leaf. -/
namespace Go.Proofs.Ytagdclbpgkilgaa
open Go.RowKit
theorem Lf.len_I (zs : List Int) : (Lf.I zs).len = zs.length := rfl
theorem Lf.len_B (gs : List Bool) : (Lf.B gs).len = gs.length := rfl
theorem Lf.len_S (ss : List ByteArray) : (Lf.S ss).len = ss.length := rfl
theorem Lf.sz_I (zs : List Int) : (Lf.I zs).sz = zs.length := rfl
theorem Lf.sz_B (gs : List Bool) : (Lf.B gs).sz = gs.length := rfl
theorem Lf.sz_S (ss : List ByteArray) : (Lf.S ss).sz = ss.length + lenS ss := rfl
end Go.Proofs.Ytagdclbpgkilgaa

/- The laws' own functions over Channel, on leaves. Written by gen_t.py. -/
namespace Go.Proofs.Ytagdclbpgkilgaa
open Go.RowKit

end Go.Proofs.Ytagdclbpgkilgaa

/- A disk that came in, opened: its two slices as lists. Nothing here walks. -/
namespace Go.Proofs.Ytagdclbpgkilgaa
open Go.RowKit Go.ChangeShapes Go.WideShapes

section
variable {H : Type} {enc : TypeId × Value → H} {P : Program} {w : World} {spare : Nat → Bool} {held : Bool}

theorem getD_range {α : Type} (n : Nat) (f : Nat → α) (d : α) (i : Nat) (h : i < n) : ((List.range n).map f).getD i d = f i := by
  simp [List.getD_eq_getElem?_getD, h]

theorem add_plain {a : Addr} {b off i : Nat} {v : Value} (h : w.cell? (a.add i) = some v) (ha : a = ⟨b, off, none⟩) : w.cell? ⟨b, off + i, none⟩ = some v := by
  subst ha
  unfold Addr.add at h
  by_cases hi : i = 0
  · subst hi; simpa using h
  · rw [if_neg hi] at h; exact h

theorem open_strs {t e : TypeId} {fuel : Nat} {v : Value} {x : DataW H × List MemPlace} (ht : P.underlying t = some (.slice e)) (he : P.underlying e = some .string) (hce : P.cellsOf e = 1)
    (h : DataW.trod enc P w 0 spare held fuel t [v] = some x) :
    ∃ A n c, ∃ ss : List ByteArray, v = .slice A n c ∧ ss.length = n ∧ n ≤ maxLen ∧ StrL w A ss ∧ FitS ss := by
  rcases Deep.open_slice1 ht hce h with ⟨hcs, _⟩ | ⟨a, len, cap, m, k, V, D, Pl, hcs, _, hl, hm, hmm, _, hx⟩
  · injection hcs with hv _
    exact ⟨none, 0, 0, [], hv, rfl, by unfold maxLen; omega, fun i hi => by simp at hi, fun s hs => by simp at hs⟩
  · injection hcs with hv _
    have hlm : len ≤ m := by rw [hmm]; split <;> omega
    obtain ⟨S, hS⟩ := Deep.choose_lt (n := len) (p := fun i (s : ByteArray) => w.cell? (a.add i) = some (.string s) ∧ s.size ≤ maxLen) (fun i hi => by
      obtain ⟨h1, h2⟩ := hx i (by omega)
      obtain ⟨s, hc, _, hs⟩ := DataW.trod_string he h2
      injection hc with hc _
      exact ⟨s, by rw [← hc]; exact h1, hs⟩)
    refine ⟨some a, len, cap, (List.range len).map S, hv, by simp, by omega, fun i hi => ?_, fun s hs => ?_⟩
    · have hi' : i < len := by simpa using hi
      have h0 := (hS 0 (by omega)).1
      have hsp := World.cell?_spot h0
      obtain ⟨b, off, spot⟩ := a
      have hsp' : spot = none := by simpa [Addr.add] using hsp
      subst hsp'
      exact ⟨b, off, rfl, by rw [getD_range len S _ i hi']; exact add_plain (hS i hi').1 rfl⟩
    · obtain ⟨i, hi, rfl⟩ := List.mem_map.1 hs
      exact (hS i (by simpa using hi)).2

theorem open_writes {t e : TypeId} {f0 f1 : Field} {fuel : Nat} {v : Value} {x : DataW H × List MemPlace} (ht : P.underlying t = some (.slice e)) (he : P.underlying e = some (.struct #[f0, f1])) (hce : P.cellsOf e = 2)
    (h0 : P.underlying f0.type = some (.int .i64)) (h1 : P.underlying f1.type = some .string) (c0 : P.cellsOf f0.type = 1) (c1 : P.cellsOf f1.type = 1) (o0 : f0.offset = 0) (o1 : f1.offset = 1)
    (h : DataW.trod enc P w 0 spare held fuel t [v] = some x) :
    ∃ A n c, ∃ ws : List (Int × ByteArray), v = .slice A n c ∧ ws.length = n ∧ n ≤ maxLen ∧ WrL w A ws ∧ FitW ws := by
  rcases Deep.open_slice ht h with ⟨hcs, _⟩ | ⟨a, len, cap, m, k, D, Pl, hcs, _, hl, hm, hmm, _, hx⟩
  · injection hcs with hv _
    exact ⟨none, 0, 0, [], hv, rfl, by unfold maxLen; omega, fun i hi => by simp at hi, fun s hs => by simp at hs⟩
  · injection hcs with hv _
    have hlm : len ≤ m := by rw [hmm]; split <;> omega
    rw [hce] at hx
    obtain ⟨S, hS⟩ := Deep.choose_lt (n := len) (p := fun i (s : Int × ByteArray) => w.cell? ((a.add (i * 2)).add 0) = some (.int .i64 s.1) ∧ w.cell? ((a.add (i * 2)).add 1) = some (.string s.2) ∧ s.2.size ≤ maxLen) (fun i hi => by
      obtain ⟨cs, g1, g2⟩ := hx i (by omega)
      obtain ⟨_, hlen, hcell⟩ := World.cells?_some g1
      obtain ⟨y0, y1, q, _, _, g3, g4⟩ := trod_struct2 he g2
      rw [o0, c0] at g3
      rw [o1, c1] at g4
      obtain ⟨u0, u1, rfl⟩ : ∃ u0 u1, cs = [u0, u1] := by
        match cs, hlen with
        | [u0, u1], _ => exact ⟨u0, u1, rfl⟩
      obtain ⟨z, hz, _, _⟩ := DataW.trod_int h0 g3
      obtain ⟨s, hs, _, hsz⟩ := DataW.trod_string h1 g4
      simp at hz hs
      have k0 := hcell 0 (by omega)
      have k1 := hcell 1 (by omega)
      simp at k0 k1
      exact ⟨(z, s), by rw [k0, hz], by rw [k1, hs], hsz⟩)
    refine ⟨some a, len, cap, (List.range len).map S, hv, by simp, by omega, fun i hi => ?_, fun s hs => ?_⟩
    · have hi' : i < len := by simpa using hi
      have h0 := (hS 0 (by omega)).1
      have hsp := World.cell?_spot h0
      obtain ⟨b, off, spot⟩ := a
      have hsp' : spot = none := by simpa [Addr.add] using hsp
      subst hsp'
      refine ⟨b, off, rfl, ?_, ?_⟩
      · rw [getD_range len S _ i hi']
        have := (hS i hi').1
        rw [Deep.add_add] at this
        exact add_plain this rfl
      · rw [getD_range len S _ i hi']
        have := (hS i hi').2.1
        rw [Deep.add_add] at this
        have := add_plain (b := b) (off := off) this rfl
        rwa [← Nat.add_assoc] at this
    · obtain ⟨i, hi, rfl⟩ := List.mem_map.1 hs
      exact (hS i (by simpa using hi)).2.2

theorem open_ints64 {t e : TypeId} {fuel : Nat} {v : Value} {x : DataW H × List MemPlace} (ht : P.underlying t = some (.slice e)) (he : P.underlying e = some (.int .i64)) (hce : P.cellsOf e = 1)
    (h : DataW.trod enc P w 0 spare held fuel t [v] = some x) :
    ∃ A n c, ∃ zs : List Int, v = .slice A n c ∧ zs.length = n ∧ n ≤ maxLen ∧ IntL w A zs ∧ ∀ z ∈ zs, (Lit.int .i64 z).wf = true := by
  rcases Deep.open_slice1 ht hce h with ⟨hcs, _⟩ | ⟨a, len, cap, m, k, V, D, Pl, hcs, _, hl, hm, hmm, _, hx⟩
  · injection hcs with hv _
    exact ⟨none, 0, 0, [], hv, rfl, by unfold maxLen; omega, fun i hi => by simp at hi, fun s hs => by simp at hs⟩
  · injection hcs with hv _
    have hlm : len ≤ m := by rw [hmm]; split <;> omega
    obtain ⟨S, hS⟩ := Deep.choose_lt (n := len) (p := fun i (s : Int) => w.cell? (a.add i) = some (.int .i64 s) ∧ (Lit.int .i64 s).wf = true) (fun i hi => by
      obtain ⟨h1, h2⟩ := hx i (by omega)
      obtain ⟨s, hc, _, hs⟩ := DataW.trod_int he h2
      injection hc with hc _
      exact ⟨s, by rw [← hc]; exact h1, hs⟩)
    refine ⟨some a, len, cap, (List.range len).map S, hv, by simp, by omega, fun i hi => ?_, fun s hs => ?_⟩
    · have hi' : i < len := by simpa using hi
      have h0 := (hS 0 (by omega)).1
      have hsp := World.cell?_spot h0
      obtain ⟨b, off, spot⟩ := a
      have hsp' : spot = none := by simpa [Addr.add] using hsp
      subst hsp'
      exact ⟨b, off, rfl, by rw [getD_range len S _ i hi']; exact add_plain (hS i hi').1 rfl⟩
    · obtain ⟨i, hi, rfl⟩ := List.mem_map.1 hs
      exact (hS i (by simpa using hi)).2
end

set_option maxRecDepth 100000 in
theorem cellsStr : Try.prog.cellsOf 9 = 1 := by kernel_rfl
set_option maxRecDepth 100000 in
theorem cellsInt : Try.prog.cellsOf 3 = 1 := by kernel_rfl
end Go.Proofs.Ytagdclbpgkilgaa

/- Slices of Channel: rows of 4 cells, as lists; the laws' own functions over them. Written by gen_r.py. -/
namespace Go.Proofs.Ytagdclbpgkilgaa
open Go.RowKit Go.ChangeShapes Go.WideShapes

abbrev TChannel := Int × Int × Int × Int
def zChannel : TChannel := (0, 0, 0, 0)
def rowChannel (x : TChannel) : List Value := [.int .i64 (x.1), .int .i64 (x.2.1), .int .i64 (x.2.2.1), .int .i64 (x.2.2.2)]
def rChannel (rs : List TChannel) : Lf := .R 36 4 (by decide) (rs.map rowChannel)
theorem len_rChannel (rs : List TChannel) : (rChannel rs).len = rs.length * 4 := by simp [rChannel, Lf.len]
theorem sz_rChannel (rs : List TChannel) : (rChannel rs).sz = rs.length := by simp [rChannel, Lf.sz]
theorem fit_rChannel {rs : List TChannel} (h : (rChannel rs).fit) : rs.length ≤ maxLen := by simpa [rChannel, Lf.fit] using h
theorem rowChannel_at (rs : List TChannel) (i : Nat) (h : i < rs.length) : (rs.map rowChannel).getD i [] = rowChannel (rs.getD i zChannel) := by
  simp [List.getD_eq_getElem?_getD, h]
/-- What the slice at A holds. -/
def RowChannel (w : World) (A : Option Addr) (rs : List TChannel) : Prop := RowL w A 4 (rs.map rowChannel)
def OwnChannel (w : World) (lo hi : Nat) (A : Option Addr) (rs : List TChannel) : Prop := OwnR w lo hi 36 A 4 (rs.map rowChannel)
theorem RowChannel.below {w w' : World} {A : Option Addr} {rs : List TChannel} (h : RowChannel w A rs) (hb : Below w.heap.size w w') : RowChannel w' A rs := RowL.below h hb
theorem OwnChannel.reads {w : World} {lo hi : Nat} {A : Option Addr} {rs : List TChannel} (h : OwnChannel w lo hi A rs) : RowChannel w A rs := OwnR.reads h
theorem OwnChannel.below {w w' : World} {lo hi : Nat} {A : Option Addr} {rs : List TChannel} (h : OwnChannel w lo hi A rs) (hb : Below w.heap.size w w') : OwnChannel w' lo hi A rs := OwnR.below h hb
theorem rep_rChannel {w : World} {A : Option Addr} {n c : Nat} {rs : List TChannel} : RepL w (.slice A n c) (rChannel rs) ↔ rs.length = n ∧ RowChannel w A rs := by
  constructor
  · rintro ⟨A', c', e, h⟩
    injection e with e1 e2 e3
    subst e1
    exact ⟨by rw [e2, List.length_map], h⟩
  · rintro ⟨rfl, h⟩
    exact ⟨A, c, by rw [List.length_map], h⟩
theorem own_rChannel {w : World} {lo hi : Nat} {A : Option Addr} {n c : Nat} {rs : List TChannel} : OwnL w lo hi (.slice A n c) (rChannel rs) ↔ rs.length = n ∧ OwnChannel w lo hi A rs := by
  constructor
  · rintro ⟨A', c', e, h⟩
    injection e with e1 e2 e3
    subst e1
    exact ⟨by rw [e2, List.length_map], h⟩
  · rintro ⟨rfl, h⟩
    exact ⟨A, c, by rw [List.length_map], h⟩
theorem RowChannel.at {w : World} {A : Option Addr} {rs : List TChannel} (h : RowChannel w A rs) (i : Nat) (hi : i < rs.length) : ∃ b off, A = some ⟨b, off, none⟩ ∧ w.cell? ⟨b, off + i * 4, none⟩ = some (.int .i64 (rs.getD i zChannel).1) ∧ w.cell? ⟨b, off + i * 4 + 1, none⟩ = some (.int .i64 (rs.getD i zChannel).2.1) ∧ w.cell? ⟨b, off + i * 4 + 2, none⟩ = some (.int .i64 (rs.getD i zChannel).2.2.1) ∧ w.cell? ⟨b, off + i * 4 + 3, none⟩ = some (.int .i64 (rs.getD i zChannel).2.2.2) := by
  have hr := rowChannel_at rs i hi
  obtain ⟨b0, o0, e0, h0⟩ := h i (by simpa using hi) 0 (by decide)
  rw [hr] at h0
  obtain ⟨b1, o1, e1, h1⟩ := h i (by simpa using hi) 1 (by decide)
  rw [hr] at h1
  obtain ⟨b2, o2, e2, h2⟩ := h i (by simpa using hi) 2 (by decide)
  rw [hr] at h2
  obtain ⟨b3, o3, e3, h3⟩ := h i (by simpa using hi) 3 (by decide)
  rw [hr] at h3
  subst e0
  injection e1 with e1
  injection e1 with p1 q1 _
  subst p1 q1
  injection e2 with e2
  injection e2 with p2 q2 _
  subst p2 q2
  injection e3 with e3
  injection e3 with p3 q3 _
  subst p3 q3
  exact ⟨b0, o0, rfl, h0, h1, h2, h3⟩
def marksChannel (q n : Nat) : List TChannel := (List.range n).map fun i => (((q + i * 4 + 0 : Nat) : Int), ((q + i * 4 + 1 : Nat) : Int), ((q + i * 4 + 2 : Nat) : Int), ((q + i * 4 + 3 : Nat) : Int))
theorem marksChannel_len (q n : Nat) : (marksChannel q n).length = n := by simp [marksChannel]
theorem marksChannel_at (q n i : Nat) (h : i < n) : (marksChannel q n).getD i zChannel = (((q + i * 4 + 0 : Nat) : Int), ((q + i * 4 + 1 : Nat) : Int), ((q + i * 4 + 2 : Nat) : Int), ((q + i * 4 + 3 : Nat) : Int)) := by simp [marksChannel, List.getD_eq_getElem?_getD, h]
theorem marks_rChannel (q : Nat) (rs : List TChannel) : (rChannel rs).marks q = rChannel (marksChannel q rs.length) := by
  unfold rChannel
  simp only [Lf.marks]
  congr 1
  unfold markRows marksChannel
  rw [List.length_map, List.map_map]
  refine List.map_congr_left fun i hi => ?_
  have hi' : i < rs.length := by simpa using hi
  rw [rowChannel_at rs i hi']
  obtain ⟨x0, x1, x2, x3⟩ := rs.getD i zChannel
  rfl
set_option maxRecDepth 100000 in
theorem infoChannel : (Try.prog.info? 36).map (fun i => (i.zero, i.size, i.bytes)) = some (some (.agg #[.int .i64 0, .int .i64 0, .int .i64 0, .int .i64 0]), 4, 32) := by kernel_rfl
set_option maxRecDepth 100000 in
theorem makeChannel (n : Nat) (hn : n ≤ 1048576) (W : World) : (Instr.makeSlice 31 (.int .i64 (n : Int)) (.int .i64 (n : Int))).run Try.prog W = .ok (.slice (some ⟨W.heap.size, 0, none⟩) n n) (W.alloc (.cells (madeCells #[.int .i64 0, .int .i64 0, .int .i64 0, .int .i64 0] (n * 4)) 36)) := by
  obtain ⟨i, hi, hzz⟩ := Option.map_eq_some_iff.1 infoChannel
  simp only [Prod.mk.injEq] at hzz
  obtain ⟨hz, hs, hb⟩ := hzz
  have hr := run_make (P := Try.prog) W 31 36 i _ Try.underlying31 hi hz .i64 .i64 n n (by omega) (Int.le_refl _) (by rw [hb]; omega) (by omega)
  simp only [Int.toNat_natCast, hs] at hr
  exact hr
def cellChannel (rs : List TChannel) (x : Nat) : Value := (rowChannel (rs.getD (x / 4) zChannel)).getD (x % 4) undef
def fillChannel (rs : List TChannel) (q x : Nat) : Value := if x < q * 4 then cellChannel rs x else (rowChannel zChannel).getD (x % 4) undef
theorem madeChannel (w : World) (n : Nat) : (w.alloc (.cells (madeCells #[.int .i64 0, .int .i64 0, .int .i64 0, .int .i64 0] (n * 4)) 36)).rowIs w.heap.size 36 (n * 4) (fillChannel [] 0) :=
  ⟨_, heap_alloc_new _ _, size_madeCells _ _, fun i hi => by
    have : i % 4 = 0 ∨ i % 4 = 1 ∨ i % 4 = 2 ∨ i % 4 = 3 := by omega
    rcases this with h | h | h | h <;> simp [fillChannel, rowChannel, zChannel, madeCells, hi, h]⟩
theorem fillChannel_next (rs : List TChannel) (q x : Nat) (x0 : Int) (x1 : Int) (x2 : Int) (x3 : Int) (h : rs.getD q zChannel = (x0, x1, x2, x3)) :
    (if x = q * 4 + 3 then Value.int .i64 x3 else (if x = q * 4 + 2 then Value.int .i64 x2 else (if x = q * 4 + 1 then Value.int .i64 x1 else (if x = q * 4 then Value.int .i64 x0 else fillChannel rs q x)))) = fillChannel rs (q + 1) x := by
  unfold fillChannel
  by_cases e3 : x = q * 4 + 3
  · subst e3
    rw [if_pos rfl, if_pos (by omega)]
    unfold cellChannel
    rw [show (q * 4 + 3) / 4 = q by omega, show (q * 4 + 3) % 4 = 3 by omega, h]
    rfl
  · rw [if_neg e3]
    by_cases e2 : x = q * 4 + 2
    · subst e2
      rw [if_pos rfl, if_pos (by omega)]
      unfold cellChannel
      rw [show (q * 4 + 2) / 4 = q by omega, show (q * 4 + 2) % 4 = 2 by omega, h]
      rfl
    · rw [if_neg e2]
      by_cases e1 : x = q * 4 + 1
      · subst e1
        rw [if_pos rfl, if_pos (by omega)]
        unfold cellChannel
        rw [show (q * 4 + 1) / 4 = q by omega, show (q * 4 + 1) % 4 = 1 by omega, h]
        rfl
      · rw [if_neg e1]
        by_cases e0 : x = q * 4
        · subst e0
          rw [if_pos rfl, if_pos (by omega)]
          unfold cellChannel
          rw [show (q * 4) / 4 = q by omega, show (q * 4) % 4 = 0 by omega, h]
          rfl
        · rw [if_neg e0]
          by_cases e4 : x < q * 4
          · rw [if_pos e4, if_pos (by omega)]
          · rw [if_neg e4, if_neg (by omega)]
theorem own_fillChannel {w : World} {lo hi b : Nat} {rs : List TChannel} (h : w.rowIs b 36 (rs.length * 4) (fillChannel rs rs.length)) (h1 : lo ≤ b) (h2 : b < hi) : OwnChannel w lo hi (some ⟨b, 0, none⟩) rs :=
  .inr ⟨b, rs.length * 4, _, rfl, h1, h2, by simp, h, fun i hi' j hj => by
    have hi'' : i < rs.length := by simpa using hi'
    rw [rowChannel_at rs i hi'']
    unfold fillChannel cellChannel
    rw [if_pos (by omega), show (i * 4 + j) / 4 = i by omega, show (i * 4 + j) % 4 = j by omega]⟩
def markCChannel (q x : Nat) : Value := if x % 4 = 0 then .int .i64 ((q + x : Nat) : Int) else if x % 4 = 1 then .int .i64 ((q + x : Nat) : Int) else if x % 4 = 2 then .int .i64 ((q + x : Nat) : Int) else .int .i64 ((q + x : Nat) : Int)
theorem own_marksChannel {w : World} {lo hi b m q n : Nat} {f : Nat → Value} (h : w.rowIs b 36 m (fun x => if x < n * 4 then markCChannel q x else f x)) (hm : n * 4 ≤ m) (h1 : lo ≤ b) (h2 : b < hi) : OwnChannel w lo hi (some ⟨b, 0, none⟩) (marksChannel q n) :=
  .inr ⟨b, m, _, rfl, h1, h2, by simpa [marksChannel_len] using hm, h, fun i hi' j hj => by
    have hi'' : i < n := by simpa [marksChannel_len] using hi'
    rw [rowChannel_at _ i (by rw [marksChannel_len]; exact hi''), marksChannel_at q n i hi'']
    show (if i * 4 + j < n * 4 then markCChannel q (i * 4 + j) else _) = _
    rw [if_pos (by omega)]
    have hmod : (i * 4 + j) % 4 = j := by omega
    unfold markCChannel rowChannel
    rw [hmod, show q + (i * 4 + j) = q + i * 4 + j by omega]
    have : j = 0 ∨ j = 1 ∨ j = 2 ∨ j = 3 := by omega
    rcases this with rfl | rfl | rfl | rfl <;> rfl⟩
end Go.Proofs.Ytagdclbpgkilgaa

/- Channels as data: what is valid, what is set, what a byte moved leaves. Nothing here walks. -/
namespace Go.Proofs.Ytagdclbpgkilgaa
open Go.RowKit

def upB (n : Int) : Bool := decide (0 ≤ n ∧ n ≤ 1)
def adC (n : Int) : Bool := decide (0 ≤ n ∧ n ≤ 4095)
def byC (n : Int) : Bool := decide (0 ≤ n ∧ n ≤ 255)
theorem adC_range {n : Int} (h : adC n = true) : 0 ≤ n ∧ n ≤ 4095 := by simpa [adC] using h
theorem byC_range {n : Int} (h : byC n = true) : 0 ≤ n ∧ n ≤ 255 := by simpa [byC] using h
def chB (x : TChannel) : Bool := adC x.1 && (adC x.2.1 && (byC x.2.2.1 && upB x.2.2.2))
def dmaB (rs : List TChannel) : Bool := decide (rs.length = 4) && rs.all chB
def chanB (i : Int) : Bool := decide (0 ≤ i ∧ i ≤ 3)
theorem upB_range {n : Int} (h : upB n = true) : 0 ≤ n ∧ n ≤ 1 := by simpa [upB] using h
theorem chanB_range {n : Int} (h : chanB n = true) : 0 ≤ n ∧ n ≤ 3 := by simpa [chanB] using h
theorem chB_range {x : TChannel} (h : chB x = true) : (0 ≤ x.1 ∧ x.1 ≤ 4095) ∧ (0 ≤ x.2.1 ∧ x.2.1 ≤ 4095) ∧ (0 ≤ x.2.2.1 ∧ x.2.2.1 ≤ 255) ∧ (0 ≤ x.2.2.2 ∧ x.2.2.2 ≤ 1) := by
  unfold chB at h
  simp only [Bool.and_eq_true] at h
  exact ⟨adC_range h.1, adC_range h.2.1, byC_range h.2.2.1, upB_range h.2.2.2⟩
theorem dmaB_len {rs : List TChannel} (h : dmaB rs = true) : rs.length = 4 ∧ rs.all chB = true := by
  unfold dmaB at h
  simpa using h
theorem dmaB_no {rs : List TChannel} (h : rs.length ≠ 4) : dmaB rs = false := by unfold dmaB; simp [h]
theorem dmaB_yes {rs : List TChannel} (h : rs.length = 4) : dmaB rs = rs.all chB := by unfold dmaB; simp [h]
theorem dmaB_at {rs : List TChannel} (h : dmaB rs = true) (i : Nat) (hi : i < 4) : chB (rs.getD i zChannel) = true := by
  obtain ⟨hl, ha⟩ := dmaB_len h
  rw [List.getD_eq_getElem?_getD, List.getElem?_eq_getElem (by omega)]
  exact List.all_eq_true.1 ha _ (List.getElem_mem _)
/-- The code of a list and a number; of a channel too. -/
def chanC (rs : List TChannel) (i : Int) : Int := if 4096 < rs.length then 2 else if dmaB rs = true then (if chanB i = true then 0 else 4) else 1
def setCode (rs : List TChannel) (i : Int) (c : TChannel) : Int := if 4096 < rs.length then 2 else if dmaB rs = true then (if (chanB i && chB c) = true then 0 else 4) else 1
def setRs (rs : List TChannel) (i : Int) (c : TChannel) : List TChannel := if setCode rs i c = 0 then rs.set i.toNat c else []
theorem setCode0 {rs : List TChannel} {i : Int} {c : TChannel} (h : setCode rs i c = 0) : dmaB rs = true ∧ chanB i = true ∧ chB c = true := by
  unfold setCode at h
  by_cases h1 : 4096 < rs.length
  · rw [if_pos h1] at h; omega
  · rw [if_neg h1] at h
    by_cases h2 : dmaB rs = true
    · rw [if_pos h2] at h
      by_cases h3 : (chanB i && chB c) = true
      · rw [Bool.and_eq_true] at h3; exact ⟨h2, h3⟩
      · rw [if_neg h3] at h; omega
    · rw [if_neg h2] at h; omega
theorem setCode_ge (rs : List TChannel) (i : Int) (c : TChannel) : 0 ≤ setCode rs i c := by unfold setCode; split <;> (try split) <;> (try split) <;> omega
theorem setRs_len (rs : List TChannel) (i : Int) (c : TChannel) : (setRs rs i c).length ≤ rs.length := by unfold setRs; split <;> simp
theorem set_getD (rs : List TChannel) (i : Nat) (h : i < rs.length) : rs.set i (rs.getD i zChannel) = rs := by
  rw [List.getD_eq_getElem?_getD, List.getElem?_eq_getElem h]
  exact List.set_getElem_self h
end Go.Proofs.Ytagdclbpgkilgaa

/- Channels that are valid, on both sides; the checks. Written by gen_dmaok.py. -/
namespace Go.Proofs.Ytagdclbpgkilgaa
open Go.RowKit

set_option maxRecDepth 100000 in
theorem l01InN (n a b : Int) (w : World) : Calls Try.prog 51 #[.int .i64 n, .int .i64 a, .int .i64 b] w fun e w' => e = .returned (.bool (decide (a ≤ n ∧ n ≤ b))) ∧ w = w' := by
  go_enter Try.func51, Try.ntmps51
  go_wp2
  all_goals go_ret
  all_goals (refine ⟨ret_bool ?_, rfl⟩)
  all_goals (rw [Bool.eq_iff_iff]; simp; try omega)
set_option maxRecDepth 100000 in
theorem isChannelB (n : Int) (w : World) : Calls Try.prog 69 #[.int .i64 n] w fun e w' => e = .returned (.bool (chanB n)) ∧ w = w' := by
  go_enter Try.func69, Try.ntmps69
  go_wp2
  all_goals go_ret
  all_goals (refine ⟨ret_bool ?_, rfl⟩)
  all_goals (unfold chanB; rw [Bool.eq_iff_iff]; simp; try omega)
set_option maxRecDepth 100000 in
theorem l05At9 (n : Int) (w : World) : Calls Try.prog 97 #[.int .i64 n] w fun e w' => e = .returned (.bool (adC n)) ∧ w = w' := by
  go_enter Try.func97, Try.ntmps97
  go_wp2_with (first | (go_at_call 51; refine (l01InN _ _ _ _).mono ?_; rintro e w' ⟨rfl, rfl⟩))
  all_goals go_ret
  all_goals (refine ⟨ret_bool ?_, rfl⟩)
  all_goals (unfold adC; rw [Bool.eq_iff_iff]; simp; try omega)
set_option maxRecDepth 100000 in
theorem isAddress9 (n : Int) (w : World) : Calls Try.prog 70 #[.int .i64 n] w fun e w' => e = .returned (.bool (adC n)) ∧ w = w' := by
  go_enter Try.func70, Try.ntmps70
  go_wp2
  all_goals go_ret
  all_goals (refine ⟨ret_bool ?_, rfl⟩)
  all_goals (unfold adC; rw [Bool.eq_iff_iff]; simp; try omega)
set_option maxRecDepth 100000 in
theorem isByte9 (n : Int) (w : World) : Calls Try.prog 71 #[.int .i64 n] w fun e w' => e = .returned (.bool (byC n)) ∧ w = w' := by
  go_enter Try.func71, Try.ntmps71
  go_wp2
  all_goals go_ret
  all_goals (refine ⟨ret_bool ?_, rfl⟩)
  all_goals (unfold byC; rw [Bool.eq_iff_iff]; simp; try omega)
set_option maxRecDepth 100000 in
theorem upTo9 (n : Int) (w : World) : Calls Try.prog 57 #[.int .i64 n, .int .i64 1] w fun e w' => e = .returned (.bool (upB n)) ∧ w = w' := by
  go_enter Try.func57, Try.ntmps57
  go_wp2
  all_goals go_ret
  all_goals (refine ⟨ret_bool ?_, rfl⟩)
  all_goals (unfold upB; rw [Bool.eq_iff_iff]; simp; try omega)

set_option maxRecDepth 100000 in
set_option maxHeartbeats 2000000 in
theorem l09Channel (x1 x2 x3 x4 : Int) (w : World) : Calls Try.prog 82 #[.agg #[.int .i64 x1, .int .i64 x2, .int .i64 x3, .int .i64 x4]] w fun e w' => e = .returned (.bool (chB (x1, x2, x3, x4))) ∧ Below w.heap.size w w' := by
  have hb0 := alloc_below w (.cells #[.int .i64 x1, .int .i64 x2, .int .i64 x3, .int .i64 x4] 36)
  obtain ⟨r, hr⟩ : ∃ r, chB (x1, x2, x3, x4) = r := ⟨_, rfl⟩
  rw [hr]
  unfold chB at hr
  simp only at hr
  by_cases h0 : adC x1 = true
  · skip
    by_cases h1 : adC x2 = true
    · skip
      by_cases h2 : byC x3 = true
      · skip
        by_cases h3 : upB x4 = true
        · skip
          have HR : Hid (r = true) := Lib.hid (by rw [← hr]; simp [h0, h1, h2, h3])
          clear hr
          have h2 : decide (0 ≤ x3 ∧ x3 ≤ 255) = true := h2
          have h3 : decide (0 ≤ x4 ∧ x4 ≤ 1) = true := h3
          go_enter Try.func82, Try.ntmps82
          go_wp2_with (first | (go_at_call 97; refine (l05At9 _ _).mono ?_; rintro e w' ⟨rfl, rfl⟩; (first | rw [h0] | rw [h1] | rw [h2] | rw [h3])) | (go_at_call 51; refine (l01InN _ _ _ _).mono ?_; rintro e w' ⟨rfl, rfl⟩; (first | rw [h0] | rw [h1] | rw [h2] | rw [h3])))
          go_ret
          exact ⟨ret_bool HR.out.symm, hb0⟩
        · have h3 : upB x4 = false := by simpa using h3
          have HR : Hid (r = false) := Lib.hid (by rw [← hr]; simp [h0, h1, h2, h3])
          clear hr
          have h2 : decide (0 ≤ x3 ∧ x3 ≤ 255) = true := h2
          have h3 : decide (0 ≤ x4 ∧ x4 ≤ 1) = false := h3
          go_enter Try.func82, Try.ntmps82
          go_wp2_with (first | (go_at_call 97; refine (l05At9 _ _).mono ?_; rintro e w' ⟨rfl, rfl⟩; (first | rw [h0] | rw [h1] | rw [h2] | rw [h3])) | (go_at_call 51; refine (l01InN _ _ _ _).mono ?_; rintro e w' ⟨rfl, rfl⟩; (first | rw [h0] | rw [h1] | rw [h2] | rw [h3])))
          go_ret
          exact ⟨ret_bool HR.out.symm, hb0⟩
      · have h2 : byC x3 = false := by simpa using h2
        have HR : Hid (r = false) := Lib.hid (by rw [← hr]; simp [h0, h1, h2])
        clear hr
        have h2 : decide (0 ≤ x3 ∧ x3 ≤ 255) = false := h2
        go_enter Try.func82, Try.ntmps82
        go_wp2_with (first | (go_at_call 97; refine (l05At9 _ _).mono ?_; rintro e w' ⟨rfl, rfl⟩; (first | rw [h0] | rw [h1] | rw [h2])) | (go_at_call 51; refine (l01InN _ _ _ _).mono ?_; rintro e w' ⟨rfl, rfl⟩; (first | rw [h0] | rw [h1] | rw [h2])))
        go_ret
        exact ⟨ret_bool HR.out.symm, hb0⟩
    · have h1 : adC x2 = false := by simpa using h1
      have HR : Hid (r = false) := Lib.hid (by rw [← hr]; simp [h0, h1])
      clear hr
      go_enter Try.func82, Try.ntmps82
      go_wp2_with (first | (go_at_call 97; refine (l05At9 _ _).mono ?_; rintro e w' ⟨rfl, rfl⟩; (first | rw [h0] | rw [h1])) | (go_at_call 51; refine (l01InN _ _ _ _).mono ?_; rintro e w' ⟨rfl, rfl⟩; (first | rw [h0] | rw [h1])))
      go_ret
      exact ⟨ret_bool HR.out.symm, hb0⟩
  · have h0 : adC x1 = false := by simpa using h0
    have HR : Hid (r = false) := Lib.hid (by rw [← hr]; simp [h0])
    clear hr
    go_enter Try.func82, Try.ntmps82
    go_wp2_with (first | (go_at_call 97; refine (l05At9 _ _).mono ?_; rintro e w' ⟨rfl, rfl⟩; (first | rw [h0])) | (go_at_call 51; refine (l01InN _ _ _ _).mono ?_; rintro e w' ⟨rfl, rfl⟩; (first | rw [h0])))
    go_ret
    exact ⟨ret_bool HR.out.symm, hb0⟩

set_option maxRecDepth 100000 in
set_option maxHeartbeats 2000000 in
theorem channelValid (x1 x2 x3 x4 : Int) (w : World) : Calls Try.prog 41 #[.agg #[.int .i64 x1, .int .i64 x2, .int .i64 x3, .int .i64 x4]] w fun e w' => e = .returned (.bool (chB (x1, x2, x3, x4))) ∧ Below w.heap.size w w' := by
  have hb0 := alloc_below w (.cells #[.int .i64 x1, .int .i64 x2, .int .i64 x3, .int .i64 x4] 36)
  obtain ⟨r, hr⟩ : ∃ r, chB (x1, x2, x3, x4) = r := ⟨_, rfl⟩
  rw [hr]
  unfold chB at hr
  simp only at hr
  by_cases h0 : adC x1 = true
  · skip
    by_cases h1 : adC x2 = true
    · skip
      by_cases h2 : byC x3 = true
      · skip
        by_cases h3 : upB x4 = true
        · skip
          have HR : Hid (r = true) := Lib.hid (by rw [← hr]; simp [h0, h1, h2, h3])
          clear hr
          go_enter Try.func41, Try.ntmps41
          go_wp2_with (first | (go_at_call 70; refine (isAddress9 _ _).mono ?_; rintro e w' ⟨rfl, rfl⟩; (first | rw [h0] | rw [h1] | rw [h2] | rw [h3])) | (go_at_call 71; refine (isByte9 _ _).mono ?_; rintro e w' ⟨rfl, rfl⟩; (first | rw [h0] | rw [h1] | rw [h2] | rw [h3])) | (go_at_call 57; refine (upTo9 _ _).mono ?_; rintro e w' ⟨rfl, rfl⟩; (first | rw [h0] | rw [h1] | rw [h2] | rw [h3])))
          go_ret
          exact ⟨ret_bool HR.out.symm, hb0⟩
        · have h3 : upB x4 = false := by simpa using h3
          have HR : Hid (r = false) := Lib.hid (by rw [← hr]; simp [h0, h1, h2, h3])
          clear hr
          go_enter Try.func41, Try.ntmps41
          go_wp2_with (first | (go_at_call 70; refine (isAddress9 _ _).mono ?_; rintro e w' ⟨rfl, rfl⟩; (first | rw [h0] | rw [h1] | rw [h2] | rw [h3])) | (go_at_call 71; refine (isByte9 _ _).mono ?_; rintro e w' ⟨rfl, rfl⟩; (first | rw [h0] | rw [h1] | rw [h2] | rw [h3])) | (go_at_call 57; refine (upTo9 _ _).mono ?_; rintro e w' ⟨rfl, rfl⟩; (first | rw [h0] | rw [h1] | rw [h2] | rw [h3])))
          go_ret
          exact ⟨ret_bool HR.out.symm, hb0⟩
      · have h2 : byC x3 = false := by simpa using h2
        have HR : Hid (r = false) := Lib.hid (by rw [← hr]; simp [h0, h1, h2])
        clear hr
        go_enter Try.func41, Try.ntmps41
        go_wp2_with (first | (go_at_call 70; refine (isAddress9 _ _).mono ?_; rintro e w' ⟨rfl, rfl⟩; (first | rw [h0] | rw [h1] | rw [h2])) | (go_at_call 71; refine (isByte9 _ _).mono ?_; rintro e w' ⟨rfl, rfl⟩; (first | rw [h0] | rw [h1] | rw [h2])) | (go_at_call 57; refine (upTo9 _ _).mono ?_; rintro e w' ⟨rfl, rfl⟩; (first | rw [h0] | rw [h1] | rw [h2])))
        go_ret
        exact ⟨ret_bool HR.out.symm, hb0⟩
    · have h1 : adC x2 = false := by simpa using h1
      have HR : Hid (r = false) := Lib.hid (by rw [← hr]; simp [h0, h1])
      clear hr
      go_enter Try.func41, Try.ntmps41
      go_wp2_with (first | (go_at_call 70; refine (isAddress9 _ _).mono ?_; rintro e w' ⟨rfl, rfl⟩; (first | rw [h0] | rw [h1])) | (go_at_call 71; refine (isByte9 _ _).mono ?_; rintro e w' ⟨rfl, rfl⟩; (first | rw [h0] | rw [h1])) | (go_at_call 57; refine (upTo9 _ _).mono ?_; rintro e w' ⟨rfl, rfl⟩; (first | rw [h0] | rw [h1])))
      go_ret
      exact ⟨ret_bool HR.out.symm, hb0⟩
  · have h0 : adC x1 = false := by simpa using h0
    have HR : Hid (r = false) := Lib.hid (by rw [← hr]; simp [h0])
    clear hr
    go_enter Try.func41, Try.ntmps41
    go_wp2_with (first | (go_at_call 70; refine (isAddress9 _ _).mono ?_; rintro e w' ⟨rfl, rfl⟩; (first | rw [h0])) | (go_at_call 71; refine (isByte9 _ _).mono ?_; rintro e w' ⟨rfl, rfl⟩; (first | rw [h0])) | (go_at_call 57; refine (upTo9 _ _).mono ?_; rintro e w' ⟨rfl, rfl⟩; (first | rw [h0])))
    go_ret
    exact ⟨ret_bool HR.out.symm, hb0⟩

set_option maxRecDepth 100000 in
set_option maxHeartbeats 2000000 in
theorem specDmaOK (A : Option Addr) (n c : Nat) (rs : List TChannel) (w : World) (hl : rs.length = n) (hn : n ≤ maxLen) (h : RowChannel w A rs) :
    Calls Try.prog 50 #[.slice A n c] w fun e w' => e = .returned (.bool (dmaB rs)) ∧ Below w.heap.size w w' := by
  unfold maxLen at hn
  have HL := Lib.hid hl
  have H := Lib.hid h
  clear hl h
  by_cases hm : 4096 < n
  · have hq : (4096 : Int) < (n : Int) := by omega
    have HF : Hid (dmaB rs = false) := Lib.hid (dmaB_no (by rw [HL.out]; omega))
    clear hm
    go_enter Try.func50, Try.ntmps50
    go_wp2
    go_ret
    exact ⟨ret_bool HF.out.symm, Below.refl _ _⟩
  · have hq : ¬ (4096 : Int) < (n : Int) := by omega
    clear hm
    go_enter Try.func50, Try.ntmps50
    go_wp2
    go_loopw [3] (fun i wr => ∃ k : Nat, k ≤ n ∧ i = .int .i64 k ∧ Hid (rs.all chB = (rs.drop k).all chB) ∧ Below w.heap.size w wr) (fun i _ => n - (intOf i).toNat)
    case atStart => exact ⟨0, Nat.zero_le _, rfl, Lib.hid rfl, Below.refl _ _⟩
    case round =>
      obtain ⟨k, hk, rfl, HT, hbw⟩ := hrel
      by_cases hlt : k < n
      · obtain ⟨b, off, rfl, c0, c1, c2, c3⟩ := (H.out.below hbw).at k (by rw [HL.out]; exact hlt)
        have HS := Lib.hid (all_step chB rs zChannel k (by rw [HL.out]; exact hlt))
        generalize rs.getD k zChannel = x at c0 c1 c2 c3 HS
        obtain ⟨x1, x2, x3, x4⟩ := x
        have hi : (k : Int) < (n : Int) := by omega
        have HC := Lib.hid (l09Channel x1 x2 x3 x4)
        by_cases hE : chB (x1, x2, x3, x4) = true
        · rw [hE] at HC
          go_wp2_with fail
          refine (HC.out _).mono ?_
          rintro e w1 ⟨rfl, hb1⟩
          clear c0 c1 c2 c3
          go_wp2
          go_roundw
          case rel => exact ⟨k + 1, by omega, by go_num, Lib.hid (by rw [HT.out, HS.out, hE]; rfl), bt hbw hb1⟩
          case measure => simp [intOf]; omega
        · have hE' : chB (x1, x2, x3, x4) = false := by simpa using hE
          rw [hE'] at HC
          clear hE
          go_wp2_with fail
          refine (HC.out _).mono ?_
          rintro e w1 ⟨rfl, hb1⟩
          clear c0 c1 c2 c3
          go_wp2
          go_ret
          exact ⟨ret_bool (by unfold dmaB; rw [HT.out, HS.out, hE']; simp), bt hbw hb1⟩
      · have HT2 : Hid (rs.all chB = true) := Lib.hid (by rw [HT.out]; exact all_end _ _ _ (by rw [HL.out]; omega))
        have HD : Hid (dmaB rs = ((n : Int) == 4)) := Lib.hid (by unfold dmaB; rw [HT2.out, HL.out, Bool.eq_iff_iff]; simp; omega)
        clear HT HT2
        go_wp2
        go_ret
        exact ⟨ret_bool HD.out.symm, hbw⟩
set_option maxRecDepth 100000 in
set_option maxHeartbeats 2000000 in
theorem allChannels (A : Option Addr) (n c : Nat) (rs : List TChannel) (w : World) (hl : rs.length = n) (hn : n ≤ maxLen) (h : RowChannel w A rs) :
    Calls Try.prog 47 #[.slice A n c] w fun e w' => e = .returned (.bool (dmaB rs)) ∧ Below w.heap.size w w' := by
  unfold maxLen at hn
  by_cases hm : n = 4
  · subst hm
    have HL := Lib.hid hl
    have H := Lib.hid h
    have HY := Lib.hid (dmaB_yes hl)
    clear hl h
    generalize dmaB rs = r at HY
    go_enter Try.func47, Try.ntmps47
    go_wp2
    go_loopw [7] (fun i wr => ∃ k : Nat, k ≤ 4 ∧ i = .int .i64 k ∧ Hid (rs.all chB = (rs.drop k).all chB) ∧ Below w.heap.size w wr) (fun i _ => 4 - (intOf i).toNat)
    case atStart => exact ⟨0, Nat.zero_le _, rfl, Lib.hid rfl, Below.refl _ _⟩
    case round =>
      obtain ⟨k, hk, rfl, HT, hbw⟩ := hrel
      by_cases hlt : k < 4
      · obtain ⟨b, off, rfl, c0, c1, c2, c3⟩ := (H.out.below hbw).at k (by rw [HL.out]; exact hlt)
        have HS := Lib.hid (all_step chB rs zChannel k (by rw [HL.out]; exact hlt))
        generalize rs.getD k zChannel = x at c0 c1 c2 c3 HS
        obtain ⟨x1, x2, x3, x4⟩ := x
        have hi : (k : Int) < 4 := by omega
        have HC := Lib.hid (channelValid x1 x2 x3 x4)
        by_cases hE : chB (x1, x2, x3, x4) = true
        · rw [hE] at HC
          go_wp2_with fail
          refine (HC.out _).mono ?_
          rintro e w1 ⟨rfl, hb1⟩
          clear c0 c1 c2 c3
          go_wp2
          go_roundw
          case rel => exact ⟨k + 1, by omega, by go_num, Lib.hid (by rw [HT.out, HS.out, hE]; rfl), bt hbw hb1⟩
          case measure => simp [intOf]; omega
        · have hE' : chB (x1, x2, x3, x4) = false := by simpa using hE
          rw [hE'] at HC
          clear hE
          go_wp2_with fail
          refine (HC.out _).mono ?_
          rintro e w1 ⟨rfl, hb1⟩
          clear c0 c1 c2 c3
          go_wp2
          go_ret
          exact ⟨ret_bool (by rw [HY.out, HT.out, HS.out, hE']; simp), bt hbw hb1⟩
      · have HT2 : Hid (r = true) := Lib.hid (by rw [HY.out, HT.out]; exact all_end _ _ _ (by rw [HL.out]; omega))
        have hi : ¬ (k : Int) < 4 := by omega
        clear HT
        go_wp2
        go_ret
        exact ⟨ret_bool HT2.out.symm, hbw⟩
  · have hq : ((n : Int) != 4) = true := by simp; omega
    have HF : Hid (dmaB rs = false) := Lib.hid (dmaB_no (by omega))
    clear hm hl h
    go_enter Try.func47, Try.ntmps47
    go_wp2
    go_ret
    exact ⟨ret_bool HF.out.symm, Below.refl _ _⟩
set_option maxRecDepth 100000 in
theorem implDmaOK (A : Option Addr) (n c : Nat) (rs : List TChannel) (w : World) (hl : rs.length = n) (hn : n ≤ maxLen) (h : RowChannel w A rs) :
    Calls Try.prog 15 #[.slice A n c] w fun e w' => e = .returned (.bool (dmaB rs)) ∧ Below w.heap.size w w' := by
  have H := Lib.hid (allChannels A n c rs w hl hn h)
  clear hl hn h
  go_enter Try.func15, Try.ntmps15
  go_wp2_with fail
  refine H.out.mono ?_
  rintro e w1 ⟨rfl, hb⟩
  go_wp2
  go_ret
  exact ⟨rfl, hb⟩
set_option maxRecDepth 100000 in
theorem checkChannel (A : Option Addr) (n c : Nat) (rs : List TChannel) (i : Int) (w : World) (hl : rs.length = n) (hn : n ≤ maxLen) (h : RowChannel w A rs) :
    Calls Try.prog 40 #[.slice A n c, .int .i64 i] w fun e w' => e = .returned (.int .i64 (chanC rs i)) ∧ Below w.heap.size w w' := by
  have H := Lib.hid (allChannels A n c rs w hl hn h)
  have HR : Hid (chanC rs i = if 4096 < rs.length then 2 else if dmaB rs = true then (if chanB i = true then 0 else 4) else 1) := Lib.hid rfl
  rw [hl] at HR
  unfold maxLen at hn
  clear hl h
  generalize chanC rs i = r at HR
  by_cases hm : 4096 < n
  · have hq : (4096 : Int) < (n : Int) := by omega
    have HF : Hid (r = 2) := Lib.hid (by rw [HR.out, if_pos hm])
    clear hm HR H
    go_enter Try.func40, Try.ntmps40
    go_wp2
    go_ret
    exact ⟨ret_int HF.out.symm, Below.refl _ _⟩
  · have hq : ¬ (4096 : Int) < (n : Int) := by omega
    by_cases h1 : dmaB rs = true
    · have HF : Hid (r = if chanB i = true then 0 else 4) := Lib.hid (by rw [HR.out, if_neg hm, if_pos h1])
      rw [h1] at H
      clear hm HR h1
      have HC := Lib.hid (isChannelB i)
      cases h2 : chanB i with
      | true =>
        rw [h2] at HF HC
        go_enter Try.func40, Try.ntmps40
        go_wp2_with fail
        refine H.out.mono ?_
        rintro e w1 ⟨rfl, hb⟩
        go_wp2_with fail
        refine (HC.out _).mono ?_
        rintro e w2 ⟨rfl, rfl⟩
        go_wp2
        go_ret
        exact ⟨ret_int HF.out.symm, hb⟩
      | false =>
        rw [h2] at HF HC
        go_enter Try.func40, Try.ntmps40
        go_wp2_with fail
        refine H.out.mono ?_
        rintro e w1 ⟨rfl, hb⟩
        go_wp2_with fail
        refine (HC.out _).mono ?_
        rintro e w2 ⟨rfl, rfl⟩
        go_wp2
        go_ret
        exact ⟨ret_int HF.out.symm, hb⟩
    · have h1' : dmaB rs = false := by simpa using h1
      have HF : Hid (r = 1) := Lib.hid (by rw [HR.out, if_neg hm, if_neg h1])
      rw [h1'] at H
      clear hm HR h1 h1'
      go_enter Try.func40, Try.ntmps40
      go_wp2_with fail
      refine H.out.mono ?_
      rintro e w1 ⟨rfl, hb⟩
      go_wp2
      go_ret
      exact ⟨ret_int HF.out.symm, hb⟩
section
variable (A0 : Option Addr) (c0 : Nat) (d0 : List TChannel) (w : World)
theorem rowsOf {w : World} {A : Option Addr} {c : Nat} {rs : List TChannel} (h : RepA w [.slice A rs.length c] [rChannel rs]) : RowChannel w A rs := (rep_rChannel.1 h.1).2
theorem rowsLen {rs : List TChannel} (z : szA [rChannel rs] ≤ 1048576) : rs.length ≤ maxLen := by
  simp only [szA, sz_rChannel] at z
  unfold maxLen; omega
set_option maxRecDepth 100000 in
theorem specDmaOKA (h : RepA w [.slice A0 d0.length c0] [rChannel d0]) (_c : CapA [.slice A0 d0.length c0]) (z : szA [rChannel d0] ≤ 1048576) :
    Calls Try.prog 50 #[.slice A0 d0.length c0] w fun e w' => e = .returned (.bool (dmaB d0)) ∧ Below w.heap.size w w' := specDmaOK A0 _ c0 d0 w rfl (rowsLen z) (rowsOf h)
set_option maxRecDepth 100000 in
theorem implDmaOKA (h : RepA w [.slice A0 d0.length c0] [rChannel d0]) (_c : CapA [.slice A0 d0.length c0]) (z : szA [rChannel d0] ≤ 1048576) :
    Calls Try.prog 15 #[.slice A0 d0.length c0] w fun e w' => e = .returned (.bool (dmaB d0)) ∧ Below w.heap.size w w' := implDmaOK A0 _ c0 d0 w rfl (rowsLen z) (rowsOf h)
end
end Go.Proofs.Ytagdclbpgkilgaa

/- Rows of structs of k cells: laid flat, fresh behind an append, an element written anew. Nothing here walks. -/
namespace Go.Proofs.Ytagdclbpgkilgaa
open Go.RowKit

theorem flat_len {k : Nat} : ∀ (rows : List (List Value)), (∀ r ∈ rows, r.length = k) → rows.flatten.length = rows.length * k
  | [], _ => by simp
  | r :: rows, h => by
    rw [List.flatten_cons, List.length_append, flat_len rows (fun x hx => h x (by simp [hx])), h r (by simp), List.length_cons, Nat.succ_mul]
    omega
theorem flat_at {k : Nat} : ∀ (rows : List (List Value)), (∀ r ∈ rows, r.length = k) → ∀ i, i < rows.length → ∀ j, j < k → rows.flatten[i * k + j]? = some ((rows.getD i []).getD j undef)
  | [], _, i, hi, _, _ => by simp at hi
  | r :: rows, h, 0, _, j, hj => by
    have hr : r.length = k := h r (by simp)
    rw [List.flatten_cons, Nat.zero_mul, Nat.zero_add, List.getElem?_append_left (by omega)]
    simp [List.getD_eq_getElem?_getD, List.getElem?_eq_getElem (show j < r.length by omega)]
  | r :: rows, h, i + 1, hi, j, hj => by
    have hr : r.length = k := h r (by simp)
    have ih := flat_at rows (fun x hx => h x (by simp [hx])) i (by simpa using hi) j hj
    rw [List.flatten_cons, List.getElem?_append_right (by rw [hr, Nat.succ_mul]; omega), hr, show (i + 1) * k + j - k = i * k + j by rw [Nat.succ_mul]; omega, ih]
    rfl
theorem RowL.src {w : World} {A : Option Addr} {k : Nat} {rows : List (List Value)} (h : RowL w A k rows) (hk : ∀ r ∈ rows, r.length = k) (hn : 0 < rows.length) (k0 : 0 < k) : ∃ ad, A = some ad ∧ ∀ j u, rows.flatten[j]? = some u → w.cell? (ad.add j) = some u := by
  obtain ⟨b, off, e, _⟩ := h 0 hn 0 k0
  refine ⟨_, e, fun j u hj => ?_⟩
  have hj' : j < rows.length * k := by
    have := (List.getElem?_eq_some_iff.1 hj).1
    rwa [flat_len rows hk] at this
  have hd : j / k < rows.length := (Nat.div_lt_iff_lt_mul k0).2 hj'
  have hm : j % k < k := Nat.mod_lt _ k0
  have hs : j / k * k + j % k = j := by rw [Nat.mul_comm]; exact Nat.div_add_mod j k
  obtain ⟨b', off', e', hc⟩ := h (j / k) hd (j % k) hm
  have hf := flat_at rows hk (j / k) hd (j % k) hm
  rw [hs, hj] at hf
  rw [e] at e'
  injection e' with e'
  injection e' with e1 e2 _
  subst e1 e2
  rw [addr_add, Nat.add_assoc, hs] at *
  rw [hc]
  exact hf.symm
theorem ownR_fresh {w' : World} {T : TypeId} {A : Option Addr} {n cap k lo base : Nat} {rows : List (List Value)} (h : w'.ownsRow base T k (.slice A n cap) n rows.flatten) (hk : ∀ r ∈ rows, r.length = k) (hl : rows.length = n) (hlo : lo ≤ base) : OwnR w' lo w'.heap.size T A k rows := by
  obtain ⟨_, h0 | ⟨g, cap', cur, e, hb, hg, hnc, _, hsz, htk⟩⟩ := h
  · exact .inl (List.eq_nil_of_length_eq_zero (by omega))
  · injection e with e _ _
    subst e
    have hcap : n * k ≤ cap' * k := Nat.mul_le_mul_right k hnc
    refine .inr ⟨g, cap' * k, fun i => cur.toList.getD i undef, rfl, by omega, ?_, by rw [hl]; exact hcap, ⟨cur, hg, hsz, fun i hi => ?_⟩, fun i hi j hj => ?_⟩
    · rcases Nat.lt_or_ge g w'.heap.size with q | q
      · exact q
      · rw [Array.getElem?_eq_none q] at hg; cases hg
    · have : i < cur.toList.length := by simp [hsz, hi]
      show cur[i]? = some (cur.toList.getD i undef)
      rw [List.getD_eq_getElem?_getD, List.getElem?_eq_getElem this, ← Array.getElem?_toList, List.getElem?_eq_getElem this]
      rfl
    · have hp := row_place hi hj (Nat.le_refl _)
      have h1 : (cur.toList.take (n * k))[i * k + j]? = rows.flatten[i * k + j]? := by rw [htk]
      rw [List.getElem?_take, if_pos (by rw [← hl]; exact hp), flat_at rows hk i hi j hj] at h1
      show cur.toList.getD (i * k + j) undef = _
      rw [List.getD_eq_getElem?_getD, h1]
      rfl
/-- One element is written anew; the others are as they were. -/
theorem OwnR.anew {w' : World} {lo hi b m i k : Nat} {T : TypeId} {f f' : Nat → Value} {rows : List (List Value)} {new : List Value} (h1 : lo ≤ b) (h2 : b < hi) (hm : rows.length * k ≤ m) (hf : ∀ x, x < rows.length → ∀ j, j < k → f (x * k + j) = (rows.getD x []).getD j undef)
    (hr : w'.rowIs b T m f') (hout : ∀ x, x < i * k ∨ i * k + k ≤ x → f' x = f x) (hin : ∀ j, j < k → f' (i * k + j) = new.getD j undef) : OwnR w' lo hi T (some ⟨b, 0, none⟩) k (rows.set i new) :=
  .inr ⟨b, m, f', rfl, h1, h2, by simpa using hm, hr, fun x hx j hj => by
    have hx' : x < rows.length := by simpa using hx
    by_cases e : x = i
    · subst e
      have hs : (rows.set x new).getD x [] = new := by rw [List.getD_eq_getElem?_getD, List.getElem?_set_self hx']; rfl
      rw [hin j hj, hs]
    · have hs : (rows.set i new).getD x [] = rows.getD x [] := by rw [List.getD_eq_getElem?_getD, List.getElem?_set_ne (fun q => e q.symm), List.getD_eq_getElem?_getD]
      rw [hs, ← hf x hx' j hj]
      refine hout _ ?_
      rcases Nat.lt_or_gt_of_ne e with q | q
      · left
        have a1 : (x + 1) * k ≤ i * k := Nat.mul_le_mul_right k q
        rw [Nat.succ_mul] at a1
        omega
      · right
        have a1 : (i + 1) * k ≤ x * k := Nat.mul_le_mul_right k q
        rw [Nat.succ_mul] at a1
        omega⟩
end Go.Proofs.Ytagdclbpgkilgaa

/- Rows of channels: laid flat, fresh behind an append, an element written anew. Nothing here walks. -/
namespace Go.Proofs.Ytagdclbpgkilgaa
open Go.RowKit

theorem rowCh_len (rs : List TChannel) : ∀ r ∈ rs.map rowChannel, r.length = 4 := fun r hr => by
  obtain ⟨x, _, rfl⟩ := List.mem_map.1 hr
  rfl
/-- The cells of channels. -/
def cellsCh (rs : List TChannel) : List Value := (rs.map rowChannel).flatten
theorem cellsCh_len (rs : List TChannel) : (cellsCh rs).length = rs.length * 4 := by
  unfold cellsCh
  rw [flat_len _ (rowCh_len rs), List.length_map]
theorem cellsCh_one (rs : List TChannel) : ∀ v ∈ cellsCh rs, v.oneCell' = true := fun v hv => by
  unfold cellsCh at hv
  obtain ⟨r, hr, hv⟩ := List.mem_flatten.1 hv
  obtain ⟨x, _, rfl⟩ := List.mem_map.1 hr
  simp [rowChannel] at hv
  rcases hv with rfl | rfl | rfl | rfl <;> rfl
theorem RowChannel.src {w : World} {A : Option Addr} {rs : List TChannel} (h : RowChannel w A rs) (hn : 0 < rs.length) : ∃ ad, A = some ad ∧ ∀ j u, (cellsCh rs)[j]? = some u → w.cell? (ad.add j) = some u :=
  RowL.src h (rowCh_len rs) (by simpa using hn) (by decide)
theorem ownCh_fresh {w' : World} {A : Option Addr} {n cap lo base : Nat} {rs : List TChannel} (h : w'.ownsRow base 36 4 (.slice A n cap) n (cellsCh rs)) (hl : rs.length = n) (hlo : lo ≤ base) : OwnChannel w' lo w'.heap.size A rs :=
  ownR_fresh h (rowCh_len rs) (by simpa using hl) hlo
set_option maxRecDepth 100000 in
theorem infoCh : ∃ i : TypeInfo, Try.prog.info? 36 = some i ∧ i.zero = some (.agg #[.int .i64 0, .int .i64 0, .int .i64 0, .int .i64 0]) ∧ i.size = 4 ∧ i.bytes = 32 := by
  obtain ⟨i, hi, hzz⟩ := Option.map_eq_some_iff.1 infoChannel
  simp only [Prod.mk.injEq] at hzz
  exact ⟨i, hi, hzz.1, hzz.2.1, hzz.2.2⟩
/-- The place of a channel, its cells, and what a store there leaves. -/
theorem OwnChannel.put {w : World} {lo hi : Nat} {A : Option Addr} {rs : List TChannel} (h : OwnChannel w lo hi A rs) (i : Nat) (hi' : i < rs.length) :
    ∃ b m f, A = some ⟨b, 0, none⟩ ∧ (w.cell? ⟨b, i * 4, none⟩ = some (.int .i64 (rs.getD i zChannel).1) ∧ w.cell? ⟨b, i * 4 + 1, none⟩ = some (.int .i64 (rs.getD i zChannel).2.1) ∧ w.cell? ⟨b, i * 4 + 2, none⟩ = some (.int .i64 (rs.getD i zChannel).2.2.1) ∧ w.cell? ⟨b, i * 4 + 3, none⟩ = some (.int .i64 (rs.getD i zChannel).2.2.2)) ∧
      (∀ x, w.frozen? ⟨b, x, none⟩ = false) ∧ lo ≤ b ∧ b < hi ∧ w.rowIs b 36 m f ∧ ∀ y : TChannel, OwnChannel ((((w.setCell ⟨b, i * 4, none⟩ (.int .i64 y.1)).setCell ⟨b, i * 4 + 1, none⟩ (.int .i64 y.2.1)).setCell ⟨b, i * 4 + 2, none⟩ (.int .i64 y.2.2.1)).setCell ⟨b, i * 4 + 3, none⟩ (.int .i64 y.2.2.2)) lo hi A (rs.set i y) := by
  rcases h with hnil | ⟨b, m, f, rfl, h1, h2, hm, hr, hf⟩
  · have hx := congrArg List.length hnil
    rw [List.length_map, List.length_nil] at hx
    omega
  · have hl : (rs.map rowChannel).length = rs.length := by simp
    have hp : i * 4 + 3 < m := by rw [hl] at hm; omega
    have hrow := rowChannel_at rs i hi'
    have g : ∀ j, j < 4 → f (i * 4 + j) = (rowChannel (rs.getD i zChannel)).getD j undef := fun j hj => by rw [hf i (by rw [hl]; exact hi') j hj, hrow]
    refine ⟨b, m, f, rfl, ⟨?_, ?_, ?_, ?_⟩, hr.frozen, h1, h2, hr, fun y => ?_⟩
    · rw [hr.cell (i := i * 4) (by omega)]; exact congrArg some (g 0 (by decide))
    · rw [hr.cell (i := i * 4 + 1) (by omega)]; exact congrArg some (g 1 (by decide))
    · rw [hr.cell (i := i * 4 + 2) (by omega)]; exact congrArg some (g 2 (by decide))
    · rw [hr.cell (i := i * 4 + 3) (by omega)]; exact congrArg some (g 3 (by decide))
    · have e : (rs.set i y).map rowChannel = (rs.map rowChannel).set i (rowChannel y) := by rw [List.map_set]
      unfold OwnChannel
      rw [e]
      refine OwnR.anew h1 h2 hm hf ((((hr.set (i * 4) (.int .i64 y.1)).set (i * 4 + 1) (.int .i64 y.2.1)).set (i * 4 + 2) (.int .i64 y.2.2.1)).set (i * 4 + 3) (.int .i64 y.2.2.2)) (fun x hx => ?_) (fun j hj => ?_)
      · show (if x = i * 4 + 3 then _ else if x = i * 4 + 2 then _ else if x = i * 4 + 1 then _ else if x = i * 4 then _ else f x) = f x
        rw [if_neg (by omega), if_neg (by omega), if_neg (by omega), if_neg (by omega)]
      · show (if i * 4 + j = i * 4 + 3 then _ else if i * 4 + j = i * 4 + 2 then _ else if i * 4 + j = i * 4 + 1 then _ else if i * 4 + j = i * 4 then _ else f (i * 4 + j)) = _
        have : j = 0 ∨ j = 1 ∨ j = 2 ∨ j = 3 := by omega
        rcases this with rfl | rfl | rfl | rfl
        · rw [if_neg (by omega), if_neg (by omega), if_neg (by omega), if_pos (by omega)]; rfl
        · rw [if_neg (by omega), if_neg (by omega), if_pos (by omega)]; rfl
        · rw [if_neg (by omega), if_pos (by omega)]; rfl
        · rw [if_pos (by omega)]; rfl
end Go.Proofs.Ytagdclbpgkilgaa

/- slices.Clone of four channels; NewDma and SetChannel on both sides. -/
namespace Go.Proofs.Ytagdclbpgkilgaa
open Go.RowKit

/-- Channels of the call's own. -/
def GivesRs (n : Nat) (rs : List TChannel) (w : World) (e : Ending) (w' : World) : Prop :=
  ∃ A c, e = .returned (.slice A n c) ∧ Hid (OwnChannel w' w.heap.size w'.heap.size A rs) ∧ Below w.heap.size w w'
def GivesRsCode (rs : List TChannel) (code : Int) (w : World) (e : Ending) (w' : World) : Prop :=
  ∃ A c, e = .returned (.tuple #[.slice A rs.length c, .int .i64 code]) ∧ Hid (OwnA w' w.heap.size w'.heap.size [.slice A rs.length c] [rChannel rs]) ∧ Below w.heap.size w w'

set_option maxRecDepth 100000 in
set_option maxHeartbeats 1000000 in
theorem cloneCh (A : Option Addr) (n c : Nat) (rs : List TChannel) (w : World) (hl : rs.length = n) (hn : 0 < n) (hn2 : n ≤ 4096) (h : RowChannel w A rs) :
    Calls Try.prog 42 #[.slice A n c] w (GivesRs n rs w) := by
  obtain ⟨ad, rfl, -⟩ := h.src (by omega)
  have HS := Lib.hid (fun W (hb : Below w.heap.size w W) => (h.below hb).src (by omega))
  have HC : Hid ((cellsCh rs).length = n * 4) := Lib.hid (by rw [cellsCh_len]; omega)
  have HL := Lib.hid hl
  have hba := alloc_below w (.cells #[] 36)
  have hnil : ∀ W : World, (binOp .eql 31 (.slice (some ad) n c) (.slice none 0 0)).run Try.prog W = .ok (.bool false) W := fun W => Lib.run_eql_slice_nil W _ _ (some ad) n c 0 0 Try.underlying31
  clear hl h
  go_enter Try.func42, Try.ntmps42
  go_wp2_with (first | (with_reducible refine wpList_app_fresh rfl (.tmp 5) (.tmp 6) 31 rfl 36 (.agg #[.int .i64 0, .int .i64 0, .int .i64 0, .int .i64 0]) 4 32 Try.underlying31 infoCh rfl (by decide) _ rfl (some ad) n c hn (cellsCh rs) rfl HC.out (HS.out _ hba) (by unfold maxLen; omega) (by omega) ?_))
  intro A1 c1 w1 hb1 O1
  have hk1 := hba.trans (hb1.mono (by omega))
  have S1 := Lib.hid (ownCh_fresh (lo := w.heap.size) O1.out HL.out (by omega))
  clear HS HC HL hba hb1 O1
  go_wp2
  go_ret
  exact ⟨_, _, rfl, S1, hk1⟩

theorem zCh4 : (List.replicate 4 zChannel).length = 4 := rfl
def newRs : List TChannel := [zChannel, zChannel, zChannel, zChannel]
theorem own_new (w : World) : OwnChannel (w.alloc (.cells (madeCells #[.int .i64 0, .int .i64 0, .int .i64 0, .int .i64 0] (4 * 4)) 36)) w.heap.size (w.heap.size + 1) (some ⟨w.heap.size, 0, none⟩) newRs := by
  refine own_fillChannel (rs := newRs) ((madeChannel w 4).congr (fun i hi => ?_)) (Nat.le_refl _) (by simp)
  have : i = 0 ∨ i = 1 ∨ i = 2 ∨ i = 3 ∨ i = 4 ∨ i = 5 ∨ i = 6 ∨ i = 7 ∨ i = 8 ∨ i = 9 ∨ i = 10 ∨ i = 11 ∨ i = 12 ∨ i = 13 ∨ i = 14 ∨ i = 15 := by omega
  rcases this with rfl | rfl | rfl | rfl | rfl | rfl | rfl | rfl | rfl | rfl | rfl | rfl | rfl | rfl | rfl | rfl <;> rfl
theorem giveNew (w : World) : ∃ A c, (Ending.returned (.slice (some ⟨w.heap.size, 0, none⟩) 4 4)) = .returned (.slice A newRs.length c) ∧ Hid (OwnA (w.alloc (.cells (madeCells #[.int .i64 0, .int .i64 0, .int .i64 0, .int .i64 0] (4 * 4)) 36)) w.heap.size (w.alloc (.cells (madeCells #[.int .i64 0, .int .i64 0, .int .i64 0, .int .i64 0] (4 * 4)) 36)).heap.size [.slice A newRs.length c] [rChannel newRs]) ∧ Below w.heap.size w (w.alloc (.cells (madeCells #[.int .i64 0, .int .i64 0, .int .i64 0, .int .i64 0] (4 * 4)) 36)) :=
  ⟨_, _, rfl, Lib.hid (OwnA.one (own_rChannel.2 ⟨rfl, by rw [show (w.alloc (.cells (madeCells #[.int .i64 0, .int .i64 0, .int .i64 0, .int .i64 0] (4 * 4)) 36)).heap.size = w.heap.size + 1 by simp]; exact own_new w⟩)), alloc_below _ _⟩
set_option maxRecDepth 100000 in
theorem implNewDmaA (w : World) : Calls Try.prog 13 #[] w fun e w' => ∃ A c, e = .returned (.slice A newRs.length c) ∧ Hid (OwnA w' w.heap.size w'.heap.size [.slice A newRs.length c] [rChannel newRs]) ∧ Below w.heap.size w w' := by
  have hmk := makeChannel 4 (by omega) w
  have hmk : (Instr.makeSlice 31 (.int .i64 4) (.int .i64 4)).run Try.prog w = .ok (.slice (some ⟨w.heap.size, 0, none⟩) 4 4) (w.alloc (.cells (madeCells #[.int .i64 0, .int .i64 0, .int .i64 0, .int .i64 0] (4 * 4)) 36)) := hmk
  have HG := Lib.hid (giveNew w)
  go_enter Try.func13, Try.ntmps13
  go_wp2
  go_ret
  exact HG.out
end Go.Proofs.Ytagdclbpgkilgaa

/- SetChannel on both sides. -/
namespace Go.Proofs.Ytagdclbpgkilgaa
open Go.RowKit

theorem chanC0 {rs : List TChannel} {i : Int} (h : chanC rs i = 0) : dmaB rs = true ∧ chanB i = true := by
  unfold chanC at h
  by_cases h1 : 4096 < rs.length
  · rw [if_pos h1] at h; omega
  · rw [if_neg h1] at h
    by_cases h2 : dmaB rs = true
    · rw [if_pos h2] at h
      by_cases h3 : chanB i = true
      · exact ⟨h2, h3⟩
      · rw [if_neg h3] at h; omega
    · rw [if_neg h2] at h; omega
theorem setCode_no {rs : List TChannel} {i : Int} (c : TChannel) (h : chanC rs i ≠ 0) : setCode rs i c = chanC rs i := by
  unfold chanC setCode at *
  by_cases h1 : 4096 < rs.length
  · rw [if_pos h1, if_pos h1]
  · rw [if_neg h1] at h ⊢
    rw [if_neg h1]
    by_cases h2 : dmaB rs = true
    · rw [if_pos h2] at h ⊢
      rw [if_pos h2]
      by_cases h3 : chanB i = true
      · rw [if_pos h3] at h; omega
      · have h3' : chanB i = false := by simpa using h3
        rw [h3']; rfl
    · rw [if_neg h2, if_neg h2]
theorem setCode_yes {rs : List TChannel} {i : Int} (c : TChannel) (h : chanC rs i = 0) : setCode rs i c = if chB c = true then 0 else 4 := by
  obtain ⟨h2, h3⟩ := chanC0 h
  have hl := (dmaB_len h2).1
  unfold setCode
  rw [if_neg (by omega), if_pos h2, h3, Bool.true_and]
theorem setRs_no {rs : List TChannel} {i : Int} {c : TChannel} (h : setCode rs i c ≠ 0) : setRs rs i c = [] := by unfold setRs; rw [if_neg h]
theorem setRs_yes {rs : List TChannel} {i : Int} {c : TChannel} (h : setCode rs i c = 0) : setRs rs i c = rs.set i.toNat c := by unfold setRs; rw [if_pos h]
theorem setCh_bnd (rs : List TChannel) (i : Int) (c : TChannel) (z : szA [rChannel rs] ≤ 1048576) : lenA [rChannel (setRs rs i c)] ≤ 4294967296 := by
  simp only [szA, sz_rChannel] at z
  simp only [lenA, len_rChannel]
  have := setRs_len rs i c
  omega
theorem gives_none (w w' : World) (A : Option Addr) (c : Nat) (code : Int) (h : Below w.heap.size w w') : GivesRsCode [] code w (.returned (.tuple #[.slice A 0 c, .int .i64 code])) w' :=
  ⟨A, c, rfl, Lib.hid (OwnA.one (own_rChannel.2 ⟨rfl, .inl rfl⟩)), h⟩
theorem gives_some {w w' : World} {A : Option Addr} {n c : Nat} {code : Int} {rs : List TChannel} (hl : rs.length = n) (h : OwnChannel w' w.heap.size w'.heap.size A rs) (hb : Below w.heap.size w w') : GivesRsCode rs code w (.returned (.tuple #[.slice A n c, .int .i64 code])) w' := by
  subst hl
  exact ⟨A, c, rfl, Lib.hid (OwnA.one (own_rChannel.2 ⟨rfl, h⟩)), hb⟩
section
variable (A0 : Option Addr) (c0 : Nat) (d0 : List TChannel) (i x1 x2 x3 x4 : Int) (w : World)
set_option maxRecDepth 100000 in
set_option maxHeartbeats 4000000 in
theorem implSetChannel (hrow : RowChannel w A0 d0) (hn : d0.length ≤ maxLen) :
    Calls Try.prog 12 #[.slice A0 d0.length c0, .int .i64 i, .agg #[.int .i64 x1, .int .i64 x2, .int .i64 x3, .int .i64 x4]] w (GivesRsCode (setRs d0 i (x1, x2, x3, x4)) (setCode d0 i (x1, x2, x3, x4)) w) := by
  generalize hl : d0.length = n at hn ⊢
  obtain ⟨W0, hW0⟩ : ∃ W0, W0 = w.alloc (.cells #[.int .i64 x1, .int .i64 x2, .int .i64 x3, .int .i64 x4] 36) := ⟨_, rfl⟩
  have hb0 : Below w.heap.size w W0 := by rw [hW0]; exact alloc_below _ _
  have X0 : Hid (Box W0 w.heap.size 36 #[.int .i64 x1, .int .i64 x2, .int .i64 x3, .int .i64 x4]) := Lib.hid (by rw [hW0]; exact Box.new _ _ _)
  have HD := Lib.hid (checkChannel A0 n c0 d0 i W0 hl hn (hrow.below hb0))
  have HCh := Lib.hid (fun W => channelValid x1 x2 x3 x4 W)
  have HL := Lib.hid hl
  have HRow := Lib.hid hrow
  have HW0 := Lib.hid hW0
  unfold maxLen at hn
  clear hl hrow hW0
  by_cases hz : chanC d0 i = 0
  · have HS := Lib.hid (setCode_yes (x1, x2, x3, x4) hz)
    obtain ⟨h1, h2⟩ := chanC0 hz
    rw [hz] at HD
    have hn4 : n = 4 := by rw [← HL.out]; exact (dmaB_len h1).1
    subst hn4
    obtain ⟨k, rfl⟩ : ∃ k : Nat, i = k := ⟨i.toNat, by have := chanB_range h2; omega⟩
    have hk : k < 4 := by have := chanB_range h2; omega
    clear h1 h2 hz
    cases h3 : chB (x1, x2, x3, x4) with
    | false =>
      have e1 : setCode d0 k (x1, x2, x3, x4) = 4 := by rw [HS.out, h3]; rfl
      rw [setRs_no (by omega), e1]
      rw [h3] at HCh
      clear HS e1 h3
      go_enter Try.func12, Try.ntmps12
      go_wp2_with fail
      rw [← HW0.out]
      refine HD.out.mono ?_
      rintro e w1 ⟨rfl, hb1⟩
      have X1 := X0.out.step hb1
      have f0 := X1.cell 0 rfl
      have f1 := X1.cell 1 rfl
      have f2 := X1.cell 2 rfl
      have f3 := X1.cell 3 rfl
      clear X1
      go_wp2_with fail
      refine (HCh.out _).mono ?_
      rintro e w2 ⟨rfl, hb2⟩
      clear f0 f1 f2 f3
      have hb3 := bt (bt hb0 hb1) hb2
      go_wp2
      go_ret2
      exact gives_none _ _ _ _ _ hb3
    | true =>
      have e1 : setCode d0 k (x1, x2, x3, x4) = 0 := by rw [HS.out, h3]; rfl
      rw [setRs_yes e1, e1]
      rw [h3] at HCh
      clear HS e1 h3
      go_enter Try.func12, Try.ntmps12
      go_wp2_with fail
      rw [← HW0.out]
      refine HD.out.mono ?_
      rintro e w1 ⟨rfl, hb1⟩
      have X1 := Lib.hid (X0.out.step hb1)
      have f0 := X1.out.cell 0 rfl
      have f1 := X1.out.cell 1 rfl
      have f2 := X1.out.cell 2 rfl
      have f3 := X1.out.cell 3 rfl
      go_wp2_with fail
      refine (HCh.out _).mono ?_
      rintro e w2 ⟨rfl, hb2⟩
      clear f0 f1 f2 f3
      have hb3 := bt (bt hb0 hb1) hb2
      have HCl := Lib.hid (cloneCh A0 4 c0 d0 w2 HL.out (by decide) (by decide) (HRow.out.below hb3))
      have X2 := Lib.hid (X1.out.step hb2)
      clear X1 X0 hb0 hb1 hb2
      go_wp2_with fail
      refine HCl.out.mono ?_
      rintro e w4 ⟨A1, c1, rfl, S4, hb4⟩
      have hs4 := hb3.size
      obtain ⟨b, m, f, rfl, ⟨g0, g1, g2, g3⟩, gz, q1, q2, hr, hput⟩ := S4.out.put k (by rw [HL.out]; exact hk)
      have X4 := X2.out.step hb4
      have f0 := X4.cell 0 rfl
      have f1 := X4.cell 1 rfl
      have f2 := X4.cell 2 rfl
      have f3 := X4.cell 3 rfl
      have gz0 := gz (k * 4)
      have gz1 := gz (k * 4 + 1)
      have gz2 := gz (k * 4 + 2)
      have gz3 := gz (k * 4 + 3)
      have HP := Lib.hid (hput (x1, x2, x3, x4))
      have q1 : w.heap.size ≤ b := by omega
      have hbe := (((((bt hb3 hb4).setCell (p := ⟨b, k * 4, none⟩) q1 (.int .i64 x1)).setCell (p := ⟨b, k * 4 + 1, none⟩) q1 (.int .i64 x2)).setCell (p := ⟨b, k * 4 + 2, none⟩) q1 (.int .i64 x3)).setCell (p := ⟨b, k * 4 + 3, none⟩) q1 (.int .i64 x4))
      have hk4 : (k : Int) < 4 := by omega
      have hk0 : (0 : Int) ≤ (k : Int) := by omega
      clear S4 hput hr gz X4 X2 HCl
      generalize (d0.getD k zChannel).1 = y1 at g0
      generalize (d0.getD k zChannel).2.1 = y2 at g1
      generalize (d0.getD k zChannel).2.2.1 = y3 at g2
      generalize (d0.getD k zChannel).2.2.2 = y4 at g3
      go_wp2
      go_ret2
      refine gives_some (rs := d0.set (k : Int).toNat (x1, x2, x3, x4)) (by rw [List.length_set]; exact HL.out) ?_ hbe
      have := OwnR.wide HP.out hs4 (Nat.le_refl _)
      simpa [OwnChannel] using this
  · rw [setRs_no (by rw [setCode_no _ hz]; exact hz), setCode_no _ hz]
    generalize chanC d0 i = code at hz HD
    have hq : (code != 0) = true := by simpa using hz
    go_enter Try.func12, Try.ntmps12
    go_wp2_with fail
    rw [← HW0.out]
    refine HD.out.mono ?_
    rintro e w1 ⟨rfl, hb1⟩
    go_wp2
    go_ret2
    exact gives_none _ _ _ _ _ (bt hb0 hb1)
set_option maxRecDepth 100000 in
theorem implSetChannelA (h : RepA w [.slice A0 d0.length c0] [rChannel d0]) (_c : CapA [.slice A0 d0.length c0]) (z : szA [rChannel d0] ≤ 1048576) :
    Calls Try.prog 12 #[.slice A0 d0.length c0, .int .i64 i, .agg #[.int .i64 x1, .int .i64 x2, .int .i64 x3, .int .i64 x4]] w (GivesRsCode (setRs d0 i (x1, x2, x3, x4)) (setCode d0 i (x1, x2, x3, x4)) w) := implSetChannel A0 c0 d0 i x1 x2 x3 x4 w (rowsOf h) (rowsLen z)
end
end Go.Proofs.Ytagdclbpgkilgaa

/- A byte moved by a channel, as data. Nothing here walks. -/
namespace Go.Proofs.Ytagdclbpgkilgaa
open Go.RowKit

def moveCode (m : MD) (rs : List TChannel) (i : Int) : Int := if 4096 < rs.length then 2 else if (m.ok && dmaB rs) = true then (if chanB i = true then 0 else 4) else 1
def moved (c : TChannel) : TChannel := ((c.1 + c.2.2.2) % 4096, (c.2.1 + c.2.2.2) % 4096, c.2.2.1 - 1, c.2.2.2)
def moveC (c : TChannel) : TChannel := if c.2.2.1 = 0 then c else moved c
def moveL (c : TChannel) : Bool := decide (c.2.2.1 = 1)
def moveM (m : MD) (c : TChannel) : MD := if c.2.2.1 = 0 then m else m.put c.2.1 (m.get c.1)
def zM : MD := ⟨[], [], [], [], 0⟩
def dmaM (m : MD) (rs : List TChannel) (i : Int) : MD := if moveCode m rs i = 0 then moveM m (rs.getD i.toNat zChannel) else zM
def dmaR (m : MD) (rs : List TChannel) (i : Int) : List TChannel := if moveCode m rs i = 0 then rs.set i.toNat (moveC (rs.getD i.toNat zChannel)) else []
def dmaT (m : MD) (rs : List TChannel) (i : Int) : Bool := if moveCode m rs i = 0 then moveL (rs.getD i.toNat zChannel) else false
theorem moveCode0 {m : MD} {rs : List TChannel} {i : Int} (h : moveCode m rs i = 0) : m.ok = true ∧ dmaB rs = true ∧ chanB i = true := by
  unfold moveCode at h
  by_cases h1 : 4096 < rs.length
  · rw [if_pos h1] at h; omega
  · rw [if_neg h1] at h
    by_cases h2 : (m.ok && dmaB rs) = true
    · rw [if_pos h2] at h
      rw [Bool.and_eq_true] at h2
      by_cases h3 : chanB i = true
      · exact ⟨h2.1, h2.2, h3⟩
      · rw [if_neg h3] at h; omega
    · rw [if_neg h2] at h; omega
theorem dmaR_len (m : MD) (rs : List TChannel) (i : Int) : (dmaR m rs i).length ≤ rs.length := by unfold dmaR; split <;> simp
end Go.Proofs.Ytagdclbpgkilgaa
