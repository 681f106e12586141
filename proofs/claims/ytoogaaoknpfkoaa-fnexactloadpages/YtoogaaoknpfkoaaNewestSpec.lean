/- The contracts of spec.l02Newest and spec.Newest. -/
import Derived.Test.YtoogaaoknpfkoaaNewest
namespace Go.Proofs.Ytoogaaoknpfkoaa
open Go.RowKit

/-- The slot of a best root in the model's way: -1 of none. -/
def slotOf (b : Best) : Int := if b.c = 0 then b.s else -1
def GivesSlot (b : Best) (w : World) (e : Ending) (w' : World) : Prop :=
  ∃ A n c, e = .returned (.tuple #[.agg #[.int .i64 b.g, .slice A n c], .int .i64 (slotOf b)]) ∧ Hid (b.z.length = n) ∧ Hid (OwnI w' w.heap.size w'.heap.size A b.z) ∧ Below w.heap.size w w'

set_option maxRecDepth 100000 in
set_option maxHeartbeats 4000000 in
theorem l02Newest (A C : Option Addr) (n c m d : Nat) (ss : List ByteArray) (ws : List (Int × ByteArray)) (w : World) (hl : ss.length = n) (hm : ws.length = m) (hok : okDisk ss ws = true) (h : StrL w A ss) (g : WrL w C ws) :
    Calls Try.prog 112 #[.agg #[.slice A n c, .slice C m d]] w (GivesSlot (best (fun k => readS ss ws k) 2) w) := by
  have hlen := okDisk_len hok
  have HC0 := Lib.hid (fun W (hb : Below w.heap.size w W) => l01Read A C n c m d ss ws 0 W hl hm (by unfold maxLen; omega) (by unfold maxLen; omega) (h.below hb) (g.below hb) (by omega))
  have HC1 := Lib.hid (fun W (hb : Below w.heap.size w W) => l01Read A C n c m d ss ws 1 W hl hm (by unfold maxLen; omega) (by unfold maxLen; omega) (h.below hb) (g.below hb) (by omega))
  have s0 := readS_small hok 0 (by omega)
  have s1 := readS_small hok 1 (by omega)
  have HB := Lib.hid (best_two (fun k => readS ss ws k) s0 s1)
  rw [show ((0 : Nat) : Int) = 0 from rfl] at HC0 HB s0
  rw [show ((1 : Nat) : Int) = 1 from rfl] at HC1 HB s1
  generalize best (fun k => readS ss ws k) 2 = B at HB
  generalize readS ss ws 0 = t0 at HC0 HB s0
  generalize readS ss ws 1 = t1 at HC1 HB s1
  have HR0 := Lib.hid (fun W => l02Read t0 W (by unfold maxLen; omega))
  have HR1 := Lib.hid (fun W => l02Read t1 W (by unfold maxLen; omega))
  generalize okG t0.data.toList = g0 at HR0 HB
  generalize okZ t0.data.toList = z0 at HR0 HB
  generalize okG t1.data.toList = g1 at HR1 HB
  generalize okZ t1.data.toList = z1 at HR1 HB
  generalize rdB t0.data.toList = k0 at HR0 HB
  generalize rdB t1.data.toList = k1 at HR1 HB
  clear hl hm hok h g hlen s0 s1
  obtain ⟨W0, hW0⟩ : ∃ W0, W0 = (w.alloc (.cells #[.slice A n c, .slice C m d] 26)).alloc (.cells #[.int .i64 0, .slice none 0 0] 57) := ⟨_, rfl⟩
  have hb0 : Below w.heap.size w W0 := by rw [hW0]; exact bt (alloc_below _ _) (alloc_below _ _)
  have X0 : Hid (Box W0 w.heap.size 26 #[.slice A n c, .slice C m d]) := Lib.hid (by rw [hW0]; exact (Box.new _ _ _).alloc _)
  have X1 : Hid (Box W0 (w.heap.size + 1) 57 #[.int .i64 0, .slice none 0 0]) := Lib.hid (by
    rw [hW0]; simpa using Box.new (w.alloc (.cells #[.slice A n c, .slice C m d] 26)) 57 #[.int .i64 0, .slice none 0 0])
  have HW0 := Lib.hid hW0
  clear hW0
  go_enter Try.func112, Try.ntmps112
  go_wp2_with fail
  rw [← HW0.out]
  clear HW0
  refine (HC0.out W0 hb0).mono ?_
  rintro e w1 ⟨rfl, hb1⟩
  go_wp2_with fail
  refine (HR0.out w1).mono ?_
  rintro e w2 ⟨A2, n2, c2, rfl, L2, O2, hb2⟩
  have k3 := bt (bt hb1 hb2) (alloc_below w2 (.cells #[.int .i64 g0, .slice A2 n2 c2] 57))
  have Y0 := Lib.hid (X0.out.step k3)
  have Y1 := Lib.hid (X1.out.step k3)
  have Y2 := Lib.hid (Box.new w2 57 #[.int .i64 g0, .slice A2 n2 c2])
  have O3 := Lib.hid (O2.out.below (alloc_below w2 (.cells #[.int .i64 g0, .slice A2 n2 c2] 57)))
  have Z1 : Hid (w.heap.size ≤ w1.heap.size ∧ w1.heap.size ≤ w2.heap.size) := Lib.hid ⟨Nat.le_trans hb0.size hb1.size, hb2.size⟩
  have hb3 := bt hb0 k3
  have f0 := Y0.out.cell 0 rfl
  have f1 := Y0.out.cell 1 rfl
  clear hb1 hb2 k3 X0 X1 O2 hb0
  go_wp2_with fail
  generalize w2.alloc (.cells #[.int .i64 g0, .slice A2 n2 c2] 57) = w3 at Y0 Y1 Y2 O3 hb3 f0 f1 ⊢
  refine (HC1.out w3 hb3).mono ?_
  rintro e w4 ⟨rfl, hb4⟩
  clear f0 f1
  go_wp2_with fail
  refine (HR1.out w4).mono ?_
  rintro e w5 ⟨A5, n5, c5, rfl, L5, O5, hb5⟩
  have k6 := bt (bt hb4 hb5) (alloc_below w5 (.cells #[.int .i64 g1, .slice A5 n5 c5] 57))
  have V1 := Lib.hid (Y1.out.step k6)
  have V2 := Lib.hid (Y2.out.step k6)
  have V3 := Lib.hid (Box.new w5 57 #[.int .i64 g1, .slice A5 n5 c5])
  have P2 := Lib.hid (O3.out.below k6)
  have P5 := Lib.hid (O5.out.below (alloc_below w5 (.cells #[.int .i64 g1, .slice A5 n5 c5] 57)))
  have Z2 : Hid (w2.heap.size < w3.heap.size ∧ w3.heap.size ≤ w4.heap.size ∧ w4.heap.size ≤ w5.heap.size ∧ w5.heap.size < (w5.alloc (.cells #[.int .i64 g1, .slice A5 n5 c5] 57)).heap.size) := Lib.hid ⟨Y2.out.lt, hb4.size, hb5.size, V3.out.lt⟩
  have hb6 := bt hb3 k6
  clear hb4 hb5 k6 Y0 Y1 Y2 O3 O5 hb3 HC0 HC1 HR0 HR1
  have y0 := V1.out.cell 0 rfl
  have y1 := V1.out.cell 1 rfl
  have y2 := V1.out.frozen 0
  have y3 := V1.out.frozen 1
  have y4 := V2.out.cell 0 rfl
  have y5 := V2.out.cell 1 rfl
  cases k0 with
  | true =>
    cases k1 with
    | true =>
      by_cases hq : g1 ≤ g0
      · have HV : Hid (B = ⟨g0, z0, 0, 0⟩) := Lib.hid (by rw [HB.out, if_pos ⟨rfl, .inr hq⟩])
        go_wp2
        refine bodyPost_ret (v := .tuple #[.agg #[.int .i64 g0, .slice A2 n2 c2], .int .i64 0]) (by simp [results, Try.results112, go_sem, y0, y1]) rfl ?_
        rw [HV.out]
        exact ⟨_, _, _, rfl, L2, Lib.hid (((P2.out.wide (lo' := w.heap.size) (hi' := w5.heap.size) (by have := Z1.out; omega) (by have := Z2.out; omega)).two V1.out (by decide) _ _).wide (Nat.le_refl _) (by simp [World.setCell])), below_st2 hb6 (by omega) _ _⟩
      · have HV : Hid (B = ⟨g1, z1, 1, 0⟩) := Lib.hid (by rw [HB.out, if_neg (by simp [hq]), if_pos rfl])
        have hq' : ¬ g1 ≤ g0 := hq
        go_wp2
        refine bodyPost_ret (v := .tuple #[.agg #[.int .i64 g1, .slice A5 n5 c5], .int .i64 1]) (by simp [results, Try.results112, go_sem, y0, y1]) rfl ?_
        rw [HV.out]
        exact ⟨_, _, _, rfl, L5, Lib.hid (((P5.out.wide (lo' := w.heap.size) (hi' := w5.heap.size) (by have := Z1.out; have := Z2.out; omega) (by have := Z2.out; omega)).two V1.out (by decide) _ _).wide (Nat.le_refl _) (by simp [World.setCell])), below_st2 hb6 (by omega) _ _⟩
    | false =>
      have HV : Hid (B = ⟨g0, z0, 0, 0⟩) := Lib.hid (by rw [HB.out, if_pos ⟨rfl, .inl rfl⟩])
      go_wp2
      refine bodyPost_ret (v := .tuple #[.agg #[.int .i64 g0, .slice A2 n2 c2], .int .i64 0]) (by simp [results, Try.results112, go_sem, y0, y1]) rfl ?_
      rw [HV.out]
      exact ⟨_, _, _, rfl, L2, Lib.hid (((P2.out.wide (lo' := w.heap.size) (hi' := w5.heap.size) (by have := Z1.out; omega) (by have := Z2.out; omega)).two V1.out (by decide) _ _).wide (Nat.le_refl _) (by simp [World.setCell])), below_st2 hb6 (by omega) _ _⟩
  | false =>
    cases k1 with
    | true =>
      have HV : Hid (B = ⟨g1, z1, 1, 0⟩) := Lib.hid (by rw [HB.out, if_neg (by simp), if_pos rfl])
      go_wp2
      refine bodyPost_ret (v := .tuple #[.agg #[.int .i64 g1, .slice A5 n5 c5], .int .i64 1]) (by simp [results, Try.results112, go_sem, y0, y1]) rfl ?_
      rw [HV.out]
      exact ⟨_, _, _, rfl, L5, Lib.hid (((P5.out.wide (lo' := w.heap.size) (hi' := w5.heap.size) (by have := Z1.out; have := Z2.out; omega) (by have := Z2.out; omega)).two V1.out (by decide) _ _).wide (Nat.le_refl _) (by simp [World.setCell])), below_st2 hb6 (by omega) _ _⟩
    | false =>
      have HV : Hid (B = ⟨0, [], 0, 9⟩) := Lib.hid (by rw [HB.out, if_neg (by simp), if_neg (by simp)])
      go_wp2
      refine bodyPost_ret (v := .tuple #[.agg #[.int .i64 0, .slice none 0 0], .int .i64 (-1)]) (by simp [results, Try.results112, go_sem, y0, y1]) rfl ?_
      rw [HV.out]
      exact ⟨_, _, _, rfl, Lib.hid rfl, Lib.hid (.inl rfl), below_st2 hb6 (by omega) _ _⟩

theorem best_code (t : Nat → ByteArray) (h0 : (t 0).size ≤ 100) (h1 : (t 1).size ≤ 100) : (best t 2).c = 0 ∧ (0 ≤ (best t 2).s) ∨ best t 2 = ⟨0, [], 0, 9⟩ := by
  rw [best_two t h0 h1]
  split
  · exact .inl ⟨rfl, by simp⟩
  · split
    · exact .inl ⟨rfl, by simp⟩
    · exact .inr rfl

set_option maxRecDepth 100000 in
set_option maxHeartbeats 2000000 in
theorem specNewest (A C : Option Addr) (n c m d : Nat) (ss : List ByteArray) (ws : List (Int × ByteArray)) (w : World) (hl : ss.length = n) (hm : ws.length = m) (hn : n ≤ maxLen) (hmm : m ≤ maxLen) (h : StrL w A ss) (g : WrL w C ws) (fs : FitS ss) (fw : FitW ws) :
    Calls Try.prog 59 #[.agg #[.slice A n c, .slice C m d]] w (GivesNew (newOf ss ws) w) := by
  obtain ⟨W0, hW0⟩ : ∃ W0, W0 = (w.alloc (.cells #[.slice A n c, .slice C m d] 26)).alloc (.cells #[.int .i64 0, .slice none 0 0] 57) := ⟨_, rfl⟩
  have hb0 : Below w.heap.size w W0 := by rw [hW0]; exact bt (alloc_below _ _) (alloc_below _ _)
  have X0 : Hid (Box W0 w.heap.size 26 #[.slice A n c, .slice C m d]) := Lib.hid (by rw [hW0]; exact (Box.new _ _ _).alloc _)
  have X1 : Hid (Box W0 (w.heap.size + 1) 57 #[.int .i64 0, .slice none 0 0]) := Lib.hid (by
    rw [hW0]; simpa using Box.new (w.alloc (.cells #[.slice A n c, .slice C m d] 26)) 57 #[.int .i64 0, .slice none 0 0])
  have HV := Lib.hid (specDiskOK A C n c m d ss ws W0 hl hm hn hmm (h.below hb0) (g.below hb0) fs fw)
  have HN := Lib.hid (fun W (hb : Below w.heap.size w W) (hok : okDisk ss ws = true) => l02Newest A C n c m d ss ws W hl hm hok (h.below hb) (g.below hb))
  have HW0 := Lib.hid hW0
  clear hl hm hn hmm h g fs fw hW0
  by_cases hok : okDisk ss ws = true
  · have HO : Hid (newOf ss ws = best (fun k => readS ss ws k) 2) := Lib.hid (by unfold newOf; rw [if_pos hok])
    have HBC := Lib.hid (best_code (fun k => readS ss ws k) (readS_small hok 0 (by omega)) (readS_small hok 1 (by omega)))
    rw [hok] at HV
    have HNk := Lib.hid (fun W hb => HN.out W hb hok)
    generalize best (fun k => readS ss ws k) 2 = b at HO HNk HBC
    clear hok HN
    go_enter Try.func59, Try.ntmps59
    go_wp2_with fail
    rw [← HW0.out]
    clear HW0
    refine HV.out.mono ?_
    rintro e w1 ⟨rfl, hb1⟩
    have Y0 := X0.out.step hb1
    have f0 := Y0.cell 0 rfl
    have f1 := Y0.cell 1 rfl
    have hb2 := bt hb0 hb1
    clear Y0
    go_wp2_with fail
    refine (HNk.out w1 hb2).mono ?_
    rintro e w2 ⟨A2, n2, c2, rfl, L2, O2, hb3⟩
    have k3 := bt hb3 (alloc_below w2 (.cells #[.int .i64 b.g, .slice A2 n2 c2] 57))
    have Y1 := Lib.hid ((X1.out.step hb1).step k3)
    have O3 := Lib.hid (O2.out.below (alloc_below w2 (.cells #[.int .i64 b.g, .slice A2 n2 c2] 57)))
    have HZ : Hid (w.heap.size ≤ w1.heap.size) := Lib.hid hb2.size
    have hb4 := bt hb2 k3
    have y2 := Y1.out.cell 0 rfl
    have y3 := Y1.out.cell 1 rfl
    have y4 := Y1.out.frozen 0
    have y5 := Y1.out.frozen 1
    clear f0 f1 hb1 hb3 k3
    rcases HBC.out with ⟨hc, hs⟩ | hb
    · have HS : Hid (slotOf b = b.s ∧ b.c = 0) := Lib.hid ⟨by unfold slotOf; rw [if_pos hc], hc⟩
      have hs' : ¬ slotOf b < 0 := by rw [HS.out.1]; omega
      clear hc hs
      go_wp2
      refine bodyPost_ret (v := .tuple #[.agg #[.int .i64 b.g, .slice A2 n2 c2], .int .i64 (slotOf b), .int .i64 0]) (by simp [results, Try.results59, go_sem, y2, y3]) rfl ?_
      rw [HO.out]
      exact ⟨_, _, _, by rw [HS.out.1, HS.out.2], L2, Lib.hid (((O3.out.wide (lo' := w.heap.size) (hi' := w2.heap.size) HZ.out (Nat.le_refl _)).two Y1.out (by decide) _ _).wide (Nat.le_refl _) (by simp [World.setCell])), below_st2 hb4 (by omega) _ _⟩
    · have HS : Hid (slotOf b = -1 ∧ b = ⟨0, [], 0, 9⟩) := Lib.hid ⟨by rw [hb]; rfl, hb⟩
      have hs' : slotOf b < 0 := by rw [HS.out.1]; omega
      clear hb
      go_wp2
      refine bodyPost_ret (v := .tuple #[.agg #[.int .i64 0, .slice none 0 0], .int .i64 0, .int .i64 9]) (by simp [results, Try.results59, go_sem, y2, y3]) rfl ?_
      have hbz := below_st2 hb4 (show w.heap.size ≤ w.heap.size + 1 by omega) (.int .i64 0) (.slice none 0 0)
      rw [HO.out]
      exact (show GivesNew b w _ _ by rw [HS.out.2]; exact givesN_none (by rw [HS.out.2] at hbz; exact hbz))
  · have hok' : okDisk ss ws = false := by simpa using hok
    have HO : Hid (newOf ss ws = ⟨0, [], 0, 1⟩) := Lib.hid (by unfold newOf; rw [if_neg hok])
    rw [hok'] at HV
    rw [HO.out]
    clear hok hok' HN HO
    go_enter Try.func59, Try.ntmps59
    go_wp2_with fail
    rw [← HW0.out]
    clear HW0
    refine HV.out.mono ?_
    rintro e w1 ⟨rfl, hb1⟩
    have Y1 := X1.out.step hb1
    have hb2 := bt hb0 hb1
    have y2 := Y1.cell 0 rfl
    have y3 := Y1.cell 1 rfl
    have y4 := Y1.frozen 0
    have y5 := Y1.frozen 1
    clear Y1 hb1
    go_wp2
    refine bodyPost_ret (v := .tuple #[.agg #[.int .i64 0, .slice none 0 0], .int .i64 0, .int .i64 1]) (by simp [results, Try.results59, go_sem, y2, y3]) rfl ?_
    exact givesN_none (below_st2 hb2 (by omega) _ _)

theorem rdZ_le (t : ByteArray) : (rdZ t).length ≤ 17 := by
  unfold rdZ
  split
  · simp
  · split
    · rw [tabT_len]; omega
    · simp
theorem best_len (t : Nat → ByteArray) : ∀ k, (best t k).z.length ≤ 17
  | 0 => by simp [best]
  | k + 1 => by
    rw [best]
    split
    · exact rdZ_le _
    · exact best_len t k
theorem newOf_len (ss : List ByteArray) (ws : List (Int × ByteArray)) : (newOf ss ws).z.length ≤ 17 := by
  unfold newOf
  split
  · exact best_len _ 2
  · simp
end Go.Proofs.Ytoogaaoknpfkoaa
