/- The program's TickTimers: a range over the iterator of those that come round. -/
import Derived.Test.YtagdclbpgkilgaaTimIter
import Derived.Maps.AppendAt
import Derived.RangeFuncBox
import Derived.BigRegionIn
namespace Go.Proofs.Ytagdclbpgkilgaa
open Go.RowKit Go.Shelf

attribute [local go_sem] Oper.semAt_some

/-- What ticks hand back: timers and numbers of the call's own. -/
def GivesTick (rs : List TTimer) (fs : List Int) (code : Int) (w : World) (e : Ending) (w' : World) : Prop :=
  ∃ A B c d, e = .returned (.tuple #[.slice A rs.length c, .slice B fs.length d, .int .i64 code]) ∧ Hid (OwnA w' w.heap.size w'.heap.size [.slice A rs.length c, .slice B fs.length d] [rTimer rs, Lf.I fs]) ∧ Below w.heap.size w w'
theorem givesTick_none (w w' : World) (A B : Option Addr) (c d : Nat) (code : Int) (h : Below w.heap.size w w') : GivesTick [] [] code w (.returned (.tuple #[.slice A 0 c, .slice B 0 d, .int .i64 code])) w' :=
  ⟨A, B, c, d, rfl, Lib.hid (OwnA.cons (own_rTimer.2 ⟨rfl, .inl rfl⟩) (OwnA.one ⟨B, d, rfl, .inl rfl⟩) (fun b hb => by rw [List.length_nil, blkL_zero] at hb; cases hb)), h⟩
theorem givesTick_some {w w' : World} {b1 b2 c d : Nat} {rs : List TTimer} {fs : List Int} (hl : rs.length = 4) (hf : fs.length = 4) (h1 : OwnTimer w' w.heap.size w'.heap.size (some ⟨b1, 0, none⟩) rs) (h2 : OwnI w' w.heap.size w'.heap.size (some ⟨b2, 0, none⟩) fs) (hne : b1 ≠ b2) (hb : Below w.heap.size w w') :
    GivesTick rs fs 0 w (.returned (.tuple #[.slice (some ⟨b1, 0, none⟩) 4 c, .slice (some ⟨b2, 0, none⟩) 4 d, .int .i64 0])) w' := by
  refine ⟨_, _, c, d, by rw [hl, hf], Lib.hid (OwnA.cons (own_rTimer.2 ⟨rfl, h1⟩) (OwnA.one ⟨_, _, rfl, h2⟩) (fun b e => ?_)), hb⟩
  rw [blkL_some (by omega)] at e
  injection e with e
  simp only [List.filterMap_cons, blkL_some (show 0 < fs.length by omega), List.filterMap_nil, List.mem_singleton]
  omega
def putAll (pre : List FireX) : List Int := pre.foldl (fun l x => l.set x.1 x.2) [0, 0, 0, 0]
theorem putAll_snoc (pre : List FireX) (x : FireX) : putAll (pre ++ [x]) = (putAll pre).set x.1 x.2 := by simp [putAll]
theorem putAll_len (pre : List FireX) : (putAll pre).length = 4 := by
  unfold putAll
  suffices h : ∀ (l : List Int), (pre.foldl (fun l x => l.set x.1 x.2) l).length = l.length from h _
  induction pre with
  | nil => intro l; rfl
  | cons x pre ih => intro l; rw [List.foldl_cons, ih, List.length_set]
theorem putAll_xsT {rs : List TTimer} {N : Int} (ht : timB rs = true) (hN : ntB N = true) : ∀ k, k ≤ 4 → putAll (xsT rs N k) = tickF rs N k
  | 0, _ => rfl
  | k + 1, hk => by
    have ih := putAll_xsT ht hN k (by omega)
    have hr := firesT_range ht hN k (by omega)
    by_cases h : 0 < firesT rs N k
    · rw [xsT_yes h, putAll_snoc, ih]; exact tickF_next rs N k (by omega)
    · rw [xsT_no (by omega), ih]; exact (tickF_same rs N k (by omega) (by omega)).symm
theorem xsT_lt {rs : List TTimer} {N : Int} {k : Nat} {x : FireX} (h : x ∈ xsT rs N k) : x.1 < k := by
  unfold xsT at h
  obtain ⟨i, hi, rfl⟩ := List.mem_map.1 h
  exact List.mem_range.1 (List.mem_filter.1 hi).1
set_option maxRecDepth 100000 in
theorem expiredOf (A : Option Addr) (len cap : Nat) (N : Int) (w : World) : Calls Try.prog 59 #[.slice A len cap, .int .i64 N] w fun e w' => e = .returned (.func (.func 87) #[] #[.pointer (some ⟨w.heap.size, 0, none⟩), .pointer (some ⟨w.heap.size + 1, 0, none⟩)]) ∧ w' = (w.alloc (.cells #[.slice A len cap] 43)).alloc (.cells #[.int .i64 N] 3) := by
  go_enter Try.func59, Try.ntmps59
  go_wp2
  go_ret
  exact ⟨by simp, rfl⟩
theorem madeRowT {w : World} {b n : Nat} {v : Value} {t : TypeId} (h : w.heap[b]? = some (.cells (madeCells #[v] n) t (0, 0))) : w.rowIs b t n (fun _ => v) := by
  obtain ⟨cs, hc, hs, hi⟩ := World.rowIs_made w v n t
  have e : (w.alloc (.cells (madeCells #[v] n) t)).heap[w.heap.size]? = some (.cells (madeCells #[v] n) t (0, 0)) := Box.new w t (madeCells #[v] n)
  rw [e] at hc
  injection hc with hc
  injection hc with hc _
  exact ⟨cs, by rw [h, hc], hs, hi⟩
theorem madeT_own {w : World} {b n L R : Nat} (h : Box w b 3 (madeCells #[.int .i64 0] n)) (hl : L ≤ b) (hr : b < R) : OwnI w L R (some ⟨b, 0, none⟩) (List.replicate n 0) :=
  .inr ⟨b, n, fun _ => .int .i64 0, rfl, hl, hr, by simp, madeRowT h, fun i hi => by
    rw [List.getD_eq_getElem?_getD, List.getElem?_replicate, if_pos (by simpa using hi)]; rfl⟩
theorem ownTimer_but {p : Nat → Prop} {w w' : World} {lo hi b : Nat} {rs : List TTimer} (h : OwnTimer w lo hi (some ⟨b, 0, none⟩) rs) (k : But p w w') (hp : ¬ p b) : OwnTimer w' lo hi (some ⟨b, 0, none⟩) rs := by
  rcases h with h | ⟨b', m, f, eA, h1, h2, hm, hr, hf⟩
  · exact .inl h
  · injection eA with eA
    injection eA with eA _ _
    subst eA
    exact .inr ⟨b, m, f, rfl, h1, h2, hm, rowIs_same (k.block b hr.lt hp) hr, hf⟩
theorem ownI_same {w w' : World} {lo hi b : Nat} {zs : List Int} (h : OwnI w lo hi (some ⟨b, 0, none⟩) zs) (e : w'.heap[b]? = w.heap[b]?) : OwnI w' lo hi (some ⟨b, 0, none⟩) zs := by
  rcases h with h | ⟨b', m, f, eA, h1, h2, hm, hr, hf⟩
  · exact .inl h
  · injection eA with eA
    injection eA with eA _ _
    subst eA
    exact .inr ⟨b, m, f, rfl, h1, h2, hm, rowIs_same e hr, hf⟩
set_option maxHeartbeats 8000000 in
set_option maxRecDepth 100000 in
theorem implTick (A0 : Option Addr) (c0 : Nat) (d0 : List TTimer) (N : Int) (w : World) (hrow : RowTimer w A0 d0) (hn : d0.length ≤ maxLen) :
    Calls Try.prog 20 #[.slice A0 d0.length c0, .int .i64 N] w (GivesTick (tickRs d0 N) (tickFs d0 N) (tickC d0 N) w) := by
  generalize hl : d0.length = n at hn ⊢
  have HD := Lib.hid (checkTimers A0 n c0 d0 w hl hn hrow)
  have HL := Lib.hid hl
  have HRow := Lib.hid hrow
  unfold maxLen at hn
  clear hl hrow
  refine (callsIn_wide (n := 9)).1 ?_
  refine callsIn_of_wp_marks Try.func20 rfl trivial ?_ rfl
  simp only [Try.ntmps20, List.size_toArray, List.length_cons, List.length_nil, Nat.reduceAdd, Nat.reduceSub, Array.replicate_succ, Array.replicate_zero, List.push_toArray, List.append_toArray, List.nil_append, List.cons_append]
  by_cases hz : timC d0 = 0
  · have h1 := timC0 hz
    have hn4 : n = 4 := by rw [← HL.out]; exact timB_len h1
    subst hn4
    rw [hz] at HD
    cases hN : ntB N with
    | false =>
      have e1 : tickC d0 N = 4 := by rw [(timC_yes hz).2, hN]; rfl
      have e2 : tickRs d0 N = [] := by unfold tickRs; rw [if_neg (by omega)]
      have e3 : tickFs d0 N = [] := by unfold tickFs; rw [if_neg (by omega)]
      rw [e1, e2, e3]
      have k0 : decide (0 ≤ N ∧ N ≤ 100000) = false := hN
      have HU := Lib.hid (fun W => upT N 100000 W)
      rw [k0] at HU
      clear e1 e2 e3 hz h1 hN k0
      gi_wp2
      refine ⟨trivial, ?_⟩
      refine (callsIn_wide.2 HD.out).mono ?_
      rintro e w1 ⟨rfl, hb1⟩
      gi_wp2
      refine ⟨trivial, ?_⟩
      refine (callsIn_wide.2 (HU.out _)).mono ?_
      rintro e w2 ⟨rfl, rfl⟩
      gi_wp2
      refine ⟨.tuple #[.slice none 0 0, .slice none 0 0, .int .i64 4], by simp [results, Try.results20, go_sem], ?_⟩
      exact givesTick_none _ _ _ _ _ _ _ hb1
    | true =>
      have e1 : tickC d0 N = 0 := by rw [(timC_yes hz).2, hN]; rfl
      have e2 : tickRs d0 N = tickR d0 N 4 := by unfold tickRs; rw [if_pos e1]
      have e3 : tickFs d0 N = tickF d0 N 4 := by unfold tickFs; rw [if_pos e1]
      rw [e1, e2, e3]
      have k0 : decide (0 ≤ N ∧ N ≤ 100000) = true := hN
      have HU := Lib.hid (fun W => upT N 100000 W)
      rw [k0] at HU
      have HT := Lib.hid h1
      have HN := Lib.hid hN
      have hmk : ∀ W : World, (Instr.makeSlice 23 (.int .i64 4) (.int .i64 4)).run Try.prog W = .ok (.slice (some ⟨W.heap.size, 0, none⟩) 4 4) (W.alloc (.cells (madeCells #[.int .i64 0] 4) 3)) := fun W => run_make_row' (P := Try.prog) 23 3 (.int .i64 0) 8 Try.underlying23 infoI rfl .i64 .i64 4 (by omega) (by omega) W
      clear e1 e2 e3 hz h1 hN k0
      gi_wp2
      refine ⟨trivial, ?_⟩
      refine (callsIn_wide.2 HD.out).mono ?_
      rintro e w1 ⟨rfl, hb1⟩
      gi_wp2
      refine ⟨trivial, ?_⟩
      refine (callsIn_wide.2 (HU.out _)).mono ?_
      rintro e w2 ⟨rfl, rfl⟩
      gi_wp2
      refine ⟨trivial, ?_⟩
      refine (callsIn_wide.2 (cloneT A0 4 c0 d0 w1 HL.out (by decide) (by decide) (HRow.out.below hb1))).mono ?_
      rintro e w2 ⟨A1, c1, rfl, S2, hb2⟩
      obtain ⟨Bk, m, f, rfl, -, -, q1, q2, -⟩ := S2.out.put 0 (by rw [HL.out]; decide)
      gi_wp2
      refine ⟨trivial, ?_⟩
      refine (callsIn_wide.2 (expiredOf _ _ _ N _)).mono ?_
      rintro e w' ⟨rfl, rfl⟩
      simp only [World.size_alloc]
      have hs1 := hb1.size
      obtain ⟨v, hv⟩ : ∃ v : World, v = w2.alloc (.cells (madeCells #[.int .i64 0] 4) 3) := ⟨_, rfl⟩
      have sv : v.heap.size = w2.heap.size + 1 := by rw [hv]; simp
      have xo := Box.new w2 3 (madeCells #[.int .i64 0] 4)
      rw [← hv] at xo
      have x9 := Box.new v 23 #[.slice (some ⟨w2.heap.size, 0, none⟩) 4 4]
      obtain ⟨v2, hv2⟩ : ∃ v2 : World, v2 = v.alloc (.cells #[.slice (some ⟨w2.heap.size, 0, none⟩) 4 4] 23) := ⟨_, rfl⟩
      have sv2 : v2.heap.size = w2.heap.size + 2 := by rw [hv2, World.size_alloc, sv]
      have xo := xo.alloc (.cells #[.slice (some ⟨w2.heap.size, 0, none⟩) 4 4] 23)
      rw [← hv2] at xo x9
      have x1 := Box.new v2 43 #[.slice (some ⟨Bk, 0, none⟩) 4 c1]
      obtain ⟨v3, hv3⟩ : ∃ v3 : World, v3 = v2.alloc (.cells #[.slice (some ⟨Bk, 0, none⟩) 4 c1] 43) := ⟨_, rfl⟩
      have sv3 : v3.heap.size = w2.heap.size + 3 := by rw [hv3, World.size_alloc, sv2]
      have xo := xo.alloc (.cells #[.slice (some ⟨Bk, 0, none⟩) 4 c1] 43)
      have x9 := x9.alloc (.cells #[.slice (some ⟨Bk, 0, none⟩) 4 c1] 43)
      rw [← hv3] at xo x9 x1
      have x2 := Box.new v3 3 #[.int .i64 N]
      obtain ⟨v4, hv4⟩ : ∃ v4 : World, v4 = v3.alloc (.cells #[.int .i64 N] 3) := ⟨_, rfl⟩
      have sv4 : v4.heap.size = w2.heap.size + 4 := by rw [hv4, World.size_alloc, sv3]
      have xo := xo.alloc (.cells #[.int .i64 N] 3)
      have x9 := x9.alloc (.cells #[.int .i64 N] 3)
      have x1 := x1.alloc (.cells #[.int .i64 N] 3)
      rw [← hv4] at xo x9 x1 x2
      have b24 : Below w2.heap.size w2 v4 := by
        rw [hv4, hv3, hv2, hv]
        exact ((((Below.refl _ w2).alloc (Nat.le_refl _) _).alloc (by simp) _).alloc (by simp; omega) _).alloc (by simp; omega) _
      have bw4 := bt (bt hb1 hb2) b24
      have hOT := OwnR.below S2.out b24
      have hOI := madeT_own (L := w.heap.size) (R := w2.heap.size + 4) xo (by have := hb2.size; omega) (by omega)
      rw [sv] at x9
      rw [sv2] at x1
      rw [sv3] at x2
      rw [← hv]
      rw [← hv2, ← hv3, ← hv4]
      have y1 := x1.cell 0 rfl
      have y2 := x2.cell 0 rfl
      have hs2 := hb2.size
      clear hv hv2 hv3 hv4 xo x1 x2 b24
      gi_wp2
      refine rangeFunc_st rfl (by omega) (gf := 87) (lb := #[.pointer (some ⟨w2.heap.size + 2, 0, none⟩), .pointer (some ⟨w2.heap.size + 3, 0, none⟩)]) rfl trivial (enters_of Try.func87 (by kernel_rfl) rfl)
        (encs := fireV) (fun _ => rfl) (Bk := Bk) (Bo := w2.heap.size) (by omega) (by omega) (xs := xsT d0 N 4) (R := fun W => OwnTimer W w1.heap.size w2.heap.size (some ⟨Bk, 0, none⟩) (tickR d0 N 4))
        (fun W hb => expiredI 8 (w2.heap.size + 2) (w2.heap.size + 3) Bk w2.heap.size v4.heap.size c1 _ _ N d0 W (by omega) HT.out HN.out hb.size (by omega) (by omega) (by omega) (by omega) (by omega) (by omega) ((hb.cell (p := ⟨w2.heap.size + 2, 0, none⟩) (cell_lt y1)).trans y1) ((hb.cell (p := ⟨w2.heap.size + 3, 0, none⟩) (cell_lt y2)).trans y2) (OwnR.below hOT hb))
        (fun A B r b => ownTimer_but r b (by omega))
        (fun pre W => Box W (w2.heap.size + 1) 23 #[.slice (some ⟨w2.heap.size, 0, none⟩) 4 4] ∧ OwnI W w.heap.size (w2.heap.size + 4) (some ⟨w2.heap.size, 0, none⟩) (putAll pre) ∧ Below w.heap.size w W ∧ w2.heap.size + 4 ≤ W.heap.size)
        (fun pre A B i b => ⟨b.box i.1 (by omega), ownI_same i.2.1 (b.block _ (by omega) (by omega)), i.2.2.1.trans (b.below (by omega) (fun k hk => by omega)), Nat.le_trans i.2.2.2 b.size⟩)
        ⟨x9, hOI, bw4, by omega⟩
        (fun x => { tmps := #[.slice A0 4 c0, .int .i64 N, undef, undef, .slice none 0 0, .slice none 0 0, .int .i64 0, .int .i64 0, .slice (some ⟨Bk, 0, none⟩) 4 c1, .pointer (some ⟨w2.heap.size + 1, 0, none⟩), .int .i64 (x.1 : Int), .int .i64 x.2, .slice A0 4 c0, .int .i64 0, .int .i64 0, .bool false, undef, .int .i64 N, .bool true, .bool false, .slice A0 4 c0, .slice (some ⟨Bk, 0, none⟩) 4 c1, .slice (some ⟨w2.heap.size, 0, none⟩) 4 4, .slice (some ⟨Bk, 0, none⟩) 4 c1, .int .i64 N, .func (.func 87) #[] #[.pointer (some ⟨w2.heap.size + 2, 0, none⟩), .pointer (some ⟨w2.heap.size + 3, 0, none⟩)], .int .i64 (x.1 : Int), .int .i64 x.2, undef, undef, undef, undef, undef, undef], defers := [] })
        ?assign ?body ?done
      case assign =>
        rintro l x W K hK
        dsimp only [fireV]
        gi_wp2
        exact hK
      case body =>
        rintro l pre x rest W ex hW ⟨i1, i2, i3, i4⟩
        have hx : x.1 < 4 := xsT_lt (by rw [ex]; simp)
        obtain ⟨i, t⟩ := x
        simp only at hx
        obtain ⟨b, m, f, eb, g0, g1, -, -, -, hput⟩ := i2.put i (by rw [putAll_len]; exact hx)
        injection eb with eb
        injection eb with eb _ _
        subst eb
        have c9 := i1.cell 0 rfl
        have j0 : (0 : Int) ≤ (i : Int) := by omega
        have j1 : (i : Int) < 4 := by omega
        have HP := Lib.hid (hput t)
        have HI := Lib.hid (putAll_snoc pre (i, t))
        generalize (putAll pre).getD i 0 = y at g0
        gi_wp2
        refine ⟨But.setCell (p := fun k => k = w2.heap.size) W (a := ⟨w2.heap.size, i, none⟩) rfl _, ?_, ?_, ?_, ?_⟩
        · exact (But.setCell (p := fun k => k = w2.heap.size) W (a := ⟨w2.heap.size, i, none⟩) rfl _).box i1 (by omega)
        · rw [HI.out]; exact HP.out
        · exact i3.setCell (p := ⟨w2.heap.size, i, none⟩) (by show _ ≤ w2.heap.size; omega) _
        · exact Nat.le_trans i4 (But.setCell (p := fun k => k = w2.heap.size) W (a := ⟨w2.heap.size, i, none⟩) rfl _).size
      case done =>
        rintro D W hD ⟨i1, i2, i3, i4⟩ r hK
        have c9 := i1.cell 0 rfl
        have HE := Lib.hid (putAll_xsT HT.out HN.out 4 (by omega))
        have HI2 := Lib.hid i2
        have HI3 := Lib.hid i3
        have HR := Lib.hid r
        have HK := Lib.hid hK
        clear i1 i2 i3 r
        gi_wp2
        gi_region
        all_goals gi_wp2
        refine ⟨by simp, .inl ⟨_, _, rfl, run_takeDeferred hK, ?_⟩⟩
        refine ⟨.tuple #[.slice (some ⟨Bk, 0, none⟩) 4 c1, .slice (some ⟨w2.heap.size, 0, none⟩) 4 4, .int .i64 0], by simp [results, Try.results20, go_sem], ?_⟩
        have P : But (fun k => k = D) W (W.drew.putObj D (.deferred none)) := (⟨rfl, rfl, rfl, Nat.le_refl _, fun _ _ _ => rfl⟩ : But (fun k => k = D) W W.drew).trans (But.putObj (p := fun k => k = D) W.drew rfl _)
        have hz := P.size
        refine givesTick_some (tickR_len _ _ _) (tickF_len _ _ _) (OwnR.wide (ownTimer_but HR.out P (by omega)) (by omega) (by omega)) ?_ (by omega) (HI3.out.trans (P.below (by omega) (fun k hk => by omega)))
        rw [← HE.out]
        exact OwnI.wideB (ownI_same HI2.out (P.block _ (by omega) (by omega))) (Nat.le_refl _) (by omega)
  · have e1 := (timC_no hz).2 N
    have e2 : tickRs d0 N = [] := by unfold tickRs; rw [if_neg (by rw [e1]; exact hz)]
    have e3 : tickFs d0 N = [] := by unfold tickFs; rw [if_neg (by rw [e1]; exact hz)]
    rw [e2, e3, e1]
    clear e1 e2 e3
    generalize timC d0 = code at hz HD
    have hq : (code != 0) = true := by simpa using hz
    gi_wp2
    refine ⟨trivial, ?_⟩
    refine (callsIn_wide.2 HD.out).mono ?_
    rintro e w1 ⟨rfl, hb1⟩
    gi_wp2
    refine ⟨.tuple #[.slice none 0 0, .slice none 0 0, .int .i64 code], by simp [results, Try.results20, go_sem], ?_⟩
    exact givesTick_none _ _ _ _ _ _ _ hb1
end Go.Proofs.Ytagdclbpgkilgaa
