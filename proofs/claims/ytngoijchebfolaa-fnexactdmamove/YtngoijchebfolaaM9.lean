/- Texts of this claim, one behind the other: DmaImpl2, OpenBools, GenOpen. -/
import Derived.Test.YtngoijchebfolaaM8
/- DmaMove of the program; both sides on leaves. Written by gen_dmaimpl2.py. -/
namespace Go.Proofs.Ytngoijchebfolaa
open Go.RowKit

theorem OwnChannel.rowOf {w : World} {lo hi : Nat} {A : Option Addr} {rs : List TChannel} {c b : Nat} (h : OwnChannel w lo hi A rs) (hb : blkL (.slice A rs.length c) = some b) : ∃ m f, w.rowIs b 36 m f := by
  rcases h with hnil | ⟨g, m, f, rfl, _, _, _, hr, _⟩
  · have hq := congrArg List.length hnil
    rw [List.length_map, List.length_nil] at hq
    rw [hq, blkL_zero] at hb; cases hb
  · rcases Nat.eq_zero_or_pos rs.length with hz | hz
    · rw [hz, blkL_zero] at hb; cases hb
    · rw [blkL_some hz] at hb; injection hb with hb; subst hb; exact ⟨m, f, hr⟩
theorem rowI {w : World} {lo hi : Nat} {v : Value} {zs : List Int} {b : Nat} (h : OwnL w lo hi v (.I zs)) (hb : blkL v = some b) : ∃ m f, w.rowIs b 3 m f := by
  obtain ⟨A, c, rfl, h⟩ := h
  exact h.rowOf hb
theorem rowB {w : World} {lo hi : Nat} {v : Value} {gs : List Bool} {b : Nat} (h : OwnL w lo hi v (.B gs)) (hb : blkL v = some b) : ∃ m f, w.rowIs b 4 m f := by
  obtain ⟨A, c, rfl, h⟩ := h
  exact h.rowOf hb
/-- Channels beside a memory's four rows: another block, for its type. -/
theorem ownA5 {w : World} {lo hi : Nat} {v0 v1 v2 v3 : Value} {A : Option Addr} {n c : Nat} {a b z : List Int} {g : List Bool} {rs : List TChannel} (h : OwnA w lo hi [v0, v1, v2, v3] [.I a, .I b, .I z, .B g]) (hl : rs.length = n) (k : OwnChannel w lo hi A rs) : OwnA w lo hi [v0, v1, v2, v3, .slice A n c] [.I a, .I b, .I z, .B g, rChannel rs] := by
  subst hl
  have kl : OwnL w lo hi (.slice A rs.length c) (rChannel rs) := own_rChannel.2 ⟨rfl, k⟩
  obtain ⟨⟨p0, p1, p2, p3, _⟩, hn⟩ := h
  refine ⟨⟨p0, p1, p2, p3, kl, trivial⟩, ?_⟩
  have e : [v0, v1, v2, v3, Value.slice A rs.length c].filterMap blkL = [v0, v1, v2, v3].filterMap blkL ++ [Value.slice A rs.length c].filterMap blkL := by rw [← List.filterMap_append]; rfl
  rw [e, List.nodup_append]
  refine ⟨hn, (OwnA.one kl).2, fun x hx y hy q => ?_⟩
  subst q
  obtain ⟨u, hu, hux⟩ := List.mem_filterMap.1 hx
  obtain ⟨u', hu', huy⟩ := List.mem_filterMap.1 hy
  rw [List.mem_singleton] at hu'
  subst hu'
  obtain ⟨m, f, hr⟩ := k.rowOf huy
  simp only [List.mem_cons, List.not_mem_nil, or_false] at hu
  rcases hu with rfl | rfl | rfl | rfl
  · obtain ⟨m', f', hr'⟩ := rowI p0 hux
    exact row_ne hr' hr (by decide) rfl
  · obtain ⟨m', f', hr'⟩ := rowI p1 hux
    exact row_ne hr' hr (by decide) rfl
  · obtain ⟨m', f', hr'⟩ := rowI p2 hux
    exact row_ne hr' hr (by decide) rfl
  · obtain ⟨m', f', hr'⟩ := rowB p3 hux
    exact row_ne hr' hr (by decide) rfl
theorem OwnChannel.wideC {w : World} {lo hi lo' hi' : Nat} {A : Option Addr} {rs : List TChannel} (h : OwnChannel w lo hi A rs) (h1 : lo' ≤ lo) (h2 : hi ≤ hi') : OwnChannel w lo' hi' A rs := OwnR.wide h h1 h2
set_option maxRecDepth 100000 in
set_option maxHeartbeats 8000000 in
theorem implDmaMove (A0 A1 A2 A3 : Option Addr) (n0 n1 n2 n3 c0 c1 c2 c3 : Nat) (m : MD) (A : Option Addr) (n c : Nat) (rs : List TChannel) (i : Int) (w : World) (l0 : m.r.length = n0) (l1 : m.i.length = n1) (l2 : m.z.length = n2) (l3 : m.g.length = n3) (q0 : n0 ≤ maxLen) (q1 : n1 ≤ maxLen) (q2 : n2 ≤ maxLen) (q3 : n3 ≤ maxLen) (h0 : IntL w A0 m.r) (h1 : IntL w A1 m.i) (h2 : IntL w A2 m.z) (h3 : BoolL w A3 m.g) (hl : rs.length = n) (hn : n ≤ maxLen) (hrow : RowChannel w A rs) :
    Calls Try.prog 13 #[.agg #[.slice A0 n0 c0, .slice A1 n1 c1, .slice A2 n2 c2, .slice A3 n3 c3, .int .i64 m.s], .slice A n c, .int .i64 i] w (GivesMR (dmaM m rs i) (dmaR m rs i) (dmaT m rs i) (moveCode m rs i) w) := by
  obtain ⟨W1, hW1⟩ : ∃ W1, W1 = ((w.alloc (.cells #[.slice A0 n0 c0, .slice A1 n1 c1, .slice A2 n2 c2, .slice A3 n3 c3, .int .i64 m.s] 28)).alloc (.cells #[.slice none 0 0, .slice none 0 0, .slice none 0 0, .slice none 0 0, .int .i64 0] 28)) := ⟨_, rfl⟩
  have hb0 : Below w.heap.size w W1 := by rw [hW1]; exact (((Below.refl _ _).alloc (Nat.le_refl _) _).alloc (by simp; try omega) _)
  have Z2 : Hid (W1.heap.size = w.heap.size + 2) := Lib.hid (by rw [hW1]; simp)
  have X3 : Hid (Box W1 (w.heap.size) 28 #[.slice A0 n0 c0, .slice A1 n1 c1, .slice A2 n2 c2, .slice A3 n3 c3, .int .i64 m.s]) := Lib.hid (by rw [hW1]; exact ((Box.new w 28 #[.slice A0 n0 c0, .slice A1 n1 c1, .slice A2 n2 c2, .slice A3 n3 c3, .int .i64 m.s]).alloc _))
  have X4 : Hid (Box W1 (w.heap.size + 1) 28 #[.slice none 0 0, .slice none 0 0, .slice none 0 0, .slice none 0 0, .int .i64 0]) := Lib.hid (by rw [hW1]; simpa using (Box.new (w.alloc (.cells #[.slice A0 n0 c0, .slice A1 n1 c1, .slice A2 n2 c2, .slice A3 n3 c3, .int .i64 m.s] 28)) 28 #[.slice none 0 0, .slice none 0 0, .slice none 0 0, .slice none 0 0, .int .i64 0]))
  have HW0 := Lib.hid hW1
  clear hW1
  have HC := Lib.hid (checkMove A0 A1 A2 A3 n0 n1 n2 n3 c0 c1 c2 c3 m A n c rs i W1 l0 l1 l2 l3 q0 q1 q2 q3 (h0.below hb0) (h1.below hb0) (h2.below hb0) hl hn (hrow.below hb0))
  have H := Lib.hid (And.intro (And.intro l0 (And.intro l1 (And.intro l2 l3))) (And.intro h0 (And.intro h1 (And.intro h2 h3))))
  have HL := Lib.hid hl
  have HRow := Lib.hid hrow
  clear l0 l1 l2 l3 q0 q1 q2 q3 h0 h1 h2 h3 hrow hn hl
  obtain ⟨cd, hcd⟩ : ∃ cd, moveCode m rs i = cd := ⟨_, rfl⟩
  rw [hcd] at HC
  have f5 := X3.out.cell 0 rfl
  have f6 := X3.out.cell 1 rfl
  have f7 := X3.out.cell 2 rfl
  have f8 := X3.out.cell 3 rfl
  have f9 := X3.out.cell 4 rfl
  rw [HW0.out] at f5 f6 f7 f8 f9
  by_cases hz : cd = 0
  · subst hz
    obtain ⟨hok, hdm, h2⟩ := moveCode0 hcd
    have hom : m.Ok := MD.ok_iff.1 hok
    have hl4 : rs.length = 4 := (dmaB_len hdm).1
    obtain rfl : n = 4 := HL.out.symm.trans hl4
    obtain rfl : n0 = 256 := H.out.1.1.symm.trans hom.r
    obtain rfl : n1 = 32 := H.out.1.2.1.symm.trans hom.i
    obtain rfl : n2 = 256 := H.out.1.2.2.1.symm.trans hom.z
    obtain rfl : n3 = 16 := H.out.1.2.2.2.symm.trans hom.g
    obtain ⟨k, rfl⟩ : ∃ k : Nat, i = k := ⟨i.toNat, by have := chanB_range h2; omega⟩
    have hk : k < 4 := by have := chanB_range h2; omega
    have hki : (k : Int) < 4 := by omega
    have hk0 : (0 : Int) ≤ (k : Int) := by omega
    have hch := dmaB_at hdm k hk
    have ED : dmaM m rs k = moveM m (rs.getD k zChannel) := by unfold dmaM; rw [if_pos hcd]; rfl
    have ER : dmaR m rs k = rs.set k (moveC (rs.getD k zChannel)) := by unfold dmaR; rw [if_pos hcd]; rfl
    have ET : dmaT m rs k = moveL (rs.getD k zChannel) := by unfold dmaT; rw [if_pos hcd]; rfl
    have HE := Lib.hid (And.intro ED (And.intro ER (And.intro ET hcd)))
    have HLm := Lib.hid (moveM_ok hom hch)
    have hlr : (rs.set k (moveC (rs.getD k zChannel))).length = 4 := by rw [List.length_set]; exact hl4
    have HMv := Lib.hid (fun (a : PA) lo hi b W (q : a.R ≤ lo) (O : OwnChannel W lo hi (some ⟨b, 0, none⟩) rs) (B : BusAt W a.R a.g a.b0 a.b1 a.b2 a.b3 a.A0 a.A1 a.c0 a.c1 m.r m.i m.z m.g m.s) => chMove a m lo hi b rs k W (by rw [hl4]; exact hk) hch hom q O B)
    unfold GMove at HMv
    have HBo := Lib.hid (fun W (hb : Below w.heap.size w W) => busOf A0 A1 A2 A3 c0 c1 c2 c3 m.r m.i m.z m.g m.s W hom.r hom.i hom.z hom.g hom.zb (H.out.2.1.below hb) (H.out.2.2.1.below hb) (H.out.2.2.2.1.below hb) (H.out.2.2.2.2.below hb))
    unfold GivesBus at HBo
    have HCl := Lib.hid (fun W (hb : Below w.heap.size w W) => cloneCh A 4 c rs W hl4 (by decide) (by decide) (HRow.out.below hb))
    unfold GivesRs at HCl
    generalize moveM m (rs.getD k zChannel) = mF at HMv HLm HE
    generalize rs.set k (moveC (rs.getD k zChannel)) = rF at HMv hlr HE
    generalize moveL (rs.getD k zChannel) = lF at HMv HE
    have HLr := Lib.hid hlr
    have HL4 := Lib.hid hl4
    have HMe := Lib.hid (fun (a : PA) W (q : BusAt W a.R a.g a.b0 a.b1 a.b2 a.b3 a.A0 a.A1 a.c0 a.c1 mF.r mF.i mF.z mF.g mF.s) => busMem a.R a.g a.b0 a.b1 a.b2 a.b3 a.A0 a.A1 a.c0 a.c1 mF.r mF.i mF.z mF.g mF.s W HLm.out.z HLm.out.g HLm.out.zb q)
    unfold GivesMemOf at HMe
    clear ED ER ET hom hl4 hch hlr H HRow HL hok hdm h2 hcd
    go_enter Try.func13, Try.ntmps13
    go_wp2_with fail
    rw [← HW0.out]
    rw [← HW0.out] at f5 f6 f7 f8 f9
    clear f5 f6 f7 f8 f9
    refine HC.out.mono ?_
    rintro e w1 ⟨rfl, hq1⟩
    have X10 := Lib.hid (X3.out.step hq1)
    have X11 := Lib.hid (X4.out.step hq1)
    have hb12 := bt hb0 hq1
    have Z13 : Hid (W1.heap.size ≤ w1.heap.size) := Lib.hid hq1.size
    clear X3 X4 hb0 hq1
    have f14 := X10.out.cell 0 rfl
    have f15 := X10.out.cell 1 rfl
    have f16 := X10.out.cell 2 rfl
    have f17 := X10.out.cell 3 rfl
    have f18 := X10.out.cell 4 rfl
    go_wp2_with fail
    clear f14 f15 f16 f17 f18
    refine (HBo.out _ hb12).mono ?_
    rintro e w2 ⟨g, b0, b1, b2, b3, D0, D1, e0, e1, rfl, BA, hq2⟩
    obtain ⟨R, hR⟩ : ∃ R, R = w1.heap.size := ⟨_, rfl⟩
    have HR := Lib.hid hR
    rw [← hR] at BA
    clear hR HBo
    have X19 := Lib.hid (X10.out.step hq2)
    have X20 := Lib.hid (X11.out.step hq2)
    have hb21 := bt hb12 hq2
    have Z22 : Hid (w1.heap.size ≤ w2.heap.size) := Lib.hid hq2.size
    clear X10 X11 hb12 hq2
    obtain ⟨V, hV⟩ : ∃ V, V = w2.alloc (.cells #[.pointer (some ⟨b0, 0, none⟩), .pointer (some ⟨b1, 0, none⟩), .pointer (some ⟨b2, 0, none⟩), .pointer (some ⟨b3, 0, none⟩)] 80) := ⟨_, rfl⟩
    have hqV : Below w2.heap.size w2 V := by rw [hV]; exact alloc_below _ _
    have XB : Hid (Box V w2.heap.size 80 #[.pointer (some ⟨b0, 0, none⟩), .pointer (some ⟨b1, 0, none⟩), .pointer (some ⟨b2, 0, none⟩), .pointer (some ⟨b3, 0, none⟩)]) := Lib.hid (by rw [hV]; exact Box.new _ _ _)
    have BV := Lib.hid (BA.out.step hqV)
    clear BA
    have HV := Lib.hid hV
    clear hV
    have X23 := Lib.hid (X19.out.step hqV)
    have X24 := Lib.hid (X20.out.step hqV)
    have hb25 := bt hb21 hqV
    have Z26 : Hid (w2.heap.size ≤ V.heap.size) := Lib.hid hqV.size
    clear X19 X20 hb21 hqV
    have HClV := Lib.hid (HCl.out V hb25)
    rw [HV.out] at HClV
    clear HCl
    go_wp2_with fail
    refine HClV.out.mono ?_
    rw [← HV.out]
    rintro e w4 ⟨A4, c4, rfl, OC, hq4⟩
    obtain ⟨b4, _, _, rfl, _⟩ := OC.out.put k (by rw [HL4.out]; exact hk)
    have B4 := Lib.hid (BV.out.step hq4)
    clear BV HClV
    have X27 := Lib.hid (X23.out.step hq4)
    have X28 := Lib.hid (X24.out.step hq4)
    have X29 := Lib.hid (XB.out.step hq4)
    have hb30 := bt hb25 hq4
    have Z31 : Hid (V.heap.size ≤ w4.heap.size) := Lib.hid hq4.size
    clear X23 X24 XB hb25 hq4
    have f32 := X29.out.cell 0 rfl
    have f33 := X29.out.cell 1 rfl
    have f34 := X29.out.cell 2 rfl
    have f35 := X29.out.cell 3 rfl
    go_wp2
    go_still_tail 4, (by kernel_rfl)
    change wpList _ _ _ _ _ w4.drew
    clear f32 f33 f34 f35
    have hdr : Below w4.heap.size w4 w4.drew := (Below.refl _ _).drew
    have Od := Lib.hid (OwnChannel.stepB OC.out hdr)
    have Bd := Lib.hid (B4.out.step hdr)
    clear OC B4
    have X36 := Lib.hid (X27.out.step hdr)
    have X37 := Lib.hid (X28.out.step hdr)
    have X38 := Lib.hid (X29.out.step hdr)
    have hb39 := bt hb30 hdr
    have Z40 : Hid (w4.heap.size ≤ w4.drew.heap.size) := Lib.hid hdr.size
    clear X27 X28 X29 hb30 hdr
    have HMx := Lib.hid (HMv.out ⟨R, R, 0, g, b0, b1, b2, b3, none, D0, D1, 0, e0, e1⟩ _ _ _ _ (by show R ≤ V.heap.size; have := HR.out; have := Z2.out; have := Z13.out; have := Z22.out; have := Z26.out; have := Z31.out; have := Z40.out; omega) Od.out Bd.out)
    go_wp2_with fail
    refine HMx.out.mono ?_
    rintro e w5 ⟨rfl, BM, OM, KM, hq5⟩
    have hq5 : Below R w4.drew w5 := hq5
    have Z5 : Hid (w4.drew.heap.size ≤ w5.heap.size) := Lib.hid hq5.size
    have XB5 := Lib.hid (KM.out _ _ _ (by decide) (by decide) (by decide) X38.out)
    have XR5 := Lib.hid (KM.out _ _ _ (by decide) (by decide) (by decide) X37.out)
    have hb5 := hb39.trans (hq5.mono (by have := HR.out; have := Z2.out; have := Z13.out; have := Z22.out; have := Z26.out; have := Z31.out; have := Z40.out; have := Z5.out; omega))
    clear X38 X37 X36 hb39 KM Od Bd HMx HMv hq5
    have f41 := XB5.out.cell 0 rfl
    have f42 := XB5.out.cell 1 rfl
    have f43 := XB5.out.cell 2 rfl
    have f44 := XB5.out.cell 3 rfl
    go_wp2_with fail
    clear f41 f42 f43 f44
    refine (HMe.out ⟨R, R, 0, g, b0, b1, b2, b3, none, D0, D1, 0, e0, e1⟩ _ BM.out).mono ?_
    rintro e w6 ⟨F2, f2, F3, f3, rfl, S2, S3, hq6⟩
    have OB := Lib.hid (ownA5 (c := c4) (ownA4 (c0 := e0) (c1 := e1) (c2 := f2) (c3 := f3) (BM.out.R.below hq6) (BM.out.I.below hq6) S2.out S3.out (L := R) (R := w6.heap.size) (Nat.le_refl _) BM.out.l.2.2.2.2.1 BM.out.l.2.2.2.2.2 hq6.size (Nat.le_refl _)) HLr.out ((OwnChannel.stepB OM.out hq6).wideC (by have := HR.out; have := Z2.out; have := Z13.out; have := Z22.out; have := Z26.out; have := Z31.out; have := Z40.out; have := Z5.out; omega) (by have := hq6.size; have := Z2.out; have := Z13.out; have := Z22.out; have := Z26.out; have := Z31.out; have := Z40.out; have := Z5.out; omega)))
    clear BM S2 S3 OM HMe
    have X45 := Lib.hid (XB5.out.step hq6)
    have X46 := Lib.hid (XR5.out.step hq6)
    have hb47 := bt hb5 hq6
    have Z48 : Hid (w5.heap.size ≤ w6.heap.size) := Lib.hid hq6.size
    clear XB5 XR5 hb5 hq6
    have f49 := X46.out.cell 0 rfl
    have f50 := X46.out.cell 1 rfl
    have f51 := X46.out.cell 2 rfl
    have f52 := X46.out.cell 3 rfl
    have f53 := X46.out.cell 4 rfl
    have z54 := X46.out.frozen 0
    have z55 := X46.out.frozen 1
    have z56 := X46.out.frozen 2
    have z57 := X46.out.frozen 3
    have z58 := X46.out.frozen 4
    go_wp2
    clear f49 f50 f51 f52 f53 z54 z55 z56 z57 z58
    obtain ⟨Y, hY⟩ : ∃ Y, Y = (((((w6.setCell ⟨w.heap.size + 1, 0, none⟩ (.slice D0 256 e0)).setCell ⟨w.heap.size + 1, 1, none⟩ (.slice D1 32 e1)).setCell ⟨w.heap.size + 1, 2, none⟩ (.slice F2 256 f2)).setCell ⟨w.heap.size + 1, 3, none⟩ (.slice F3 16 f3)).setCell ⟨w.heap.size + 1, 4, none⟩ (.int .i64 mF.s)) := ⟨_, rfl⟩
    have hBY : Btw (w.heap.size + 1) (w.heap.size + 1 + 1) w6 Y := by rw [hY]; exact ((((((Btw.refl _ _ _).setCell (p := ⟨w.heap.size + 1, 0, none⟩) (Nat.le_refl _) (Nat.lt_succ_self _) _).setCell (p := ⟨w.heap.size + 1, 1, none⟩) (Nat.le_refl _) (Nat.lt_succ_self _) _).setCell (p := ⟨w.heap.size + 1, 2, none⟩) (Nat.le_refl _) (Nat.lt_succ_self _) _).setCell (p := ⟨w.heap.size + 1, 3, none⟩) (Nat.le_refl _) (Nat.lt_succ_self _) _).setCell (p := ⟨w.heap.size + 1, 4, none⟩) (Nat.le_refl _) (Nat.lt_succ_self _) _)
    have r1 : Box Y (w.heap.size + 1) 28 #[.slice D0 256 e0, .slice D1 32 e1, .slice F2 256 f2, .slice F3 16 f3, .int .i64 mF.s] := by rw [hY]; exact X46.out.allN5 rfl _ _ _ _ _
    rw [← hY]
    clear hY
    have t0 := r1.cell 0 rfl
    have t1 := r1.cell 1 rfl
    have t2 := r1.cell 2 rfl
    have t3 := r1.cell 3 rfl
    have t4 := r1.cell 4 rfl
    refine bodyPost_ret (v := .tuple #[.agg #[.slice D0 256 e0, .slice D1 32 e1, .slice F2 256 f2, .slice F3 16 f3, .int .i64 mF.s], .slice (some ⟨b4, 0, none⟩) 4 c4, .bool lF, .int .i64 0]) (by simp [results, Try.results13, go_sem, t0, t1, t2, t3, t4]) rfl ?_
    have hfin := Btw.lowSize hBY hb47 (Nat.le_of_lt X46.out.lt) (by have := Z2.out; have := Z13.out; have := Z22.out; have := Z26.out; have := Z31.out; have := Z40.out; have := Z5.out; have := Z48.out; omega)
    rw [HE.out.1, HE.out.2.1, HE.out.2.2.1, HE.out.2.2.2]
    have hRw : w.heap.size + 2 ≤ R := by have := HR.out; have := Z2.out; have := Z13.out; have := Z22.out; have := Z26.out; have := Z31.out; have := Z40.out; have := Z5.out; have := Z48.out; omega
    refine ⟨D0, D1, F2, F3, some ⟨b4, 0, none⟩, e0, e1, f2, f3, c4, ?_, Lib.hid ?_, hfin⟩
    · rw [HLm.out.r, HLm.out.i, HLm.out.z, HLm.out.g, HLr.out]
    · have OC := OB.out
      rw [HLm.out.r, HLm.out.i, HLm.out.z, HLm.out.g] at OC
      rw [HLm.out.r, HLm.out.i, HLm.out.z, HLm.out.g, HLr.out]
      exact (OC.btw hBY (.inr (by omega))).wide (by omega) hBY.size
  · have hq : (cd != 0) = true := by simpa using hz
    clear H HL HRow
    go_enter Try.func13, Try.ntmps13
    go_wp2_with fail
    rw [← HW0.out]
    rw [← HW0.out] at f5 f6 f7 f8 f9
    clear f5 f6 f7 f8 f9
    refine HC.out.mono ?_
    rintro e w1 ⟨rfl, hq1⟩
    have X10 := Lib.hid (X3.out.step hq1)
    have X11 := Lib.hid (X4.out.step hq1)
    have hb12 := bt hb0 hq1
    have Z13 : Hid (W1.heap.size ≤ w1.heap.size) := Lib.hid hq1.size
    clear X3 X4 hb0 hq1
    have f14 := X11.out.cell 0 rfl
    have f15 := X11.out.cell 1 rfl
    have f16 := X11.out.cell 2 rfl
    have f17 := X11.out.cell 3 rfl
    have f18 := X11.out.cell 4 rfl
    have z19 := X11.out.frozen 0
    have z20 := X11.out.frozen 1
    have z21 := X11.out.frozen 2
    have z22 := X11.out.frozen 3
    have z23 := X11.out.frozen 4
    go_wp2
    obtain ⟨W24, hW24⟩ : ∃ W24, W24 = (((((w1.setCell ⟨w.heap.size + 1, 0, none⟩ (.slice none 0 0)).setCell ⟨w.heap.size + 1, 1, none⟩ (.slice none 0 0)).setCell ⟨w.heap.size + 1, 2, none⟩ (.slice none 0 0)).setCell ⟨w.heap.size + 1, 3, none⟩ (.slice none 0 0)).setCell ⟨w.heap.size + 1, 4, none⟩ (.int .i64 0)) := ⟨_, rfl⟩
    have hB25 : Btw (w.heap.size + 1) (w.heap.size + 1 + 1) w1 W24 := by rw [hW24]; exact ((((((Btw.refl _ _ _).setCell (p := ⟨w.heap.size + 1, 0, none⟩) (Nat.le_refl _) (Nat.lt_succ_self _) _).setCell (p := ⟨w.heap.size + 1, 1, none⟩) (Nat.le_refl _) (Nat.lt_succ_self _) _).setCell (p := ⟨w.heap.size + 1, 2, none⟩) (Nat.le_refl _) (Nat.lt_succ_self _) _).setCell (p := ⟨w.heap.size + 1, 3, none⟩) (Nat.le_refl _) (Nat.lt_succ_self _) _).setCell (p := ⟨w.heap.size + 1, 4, none⟩) (Nat.le_refl _) (Nat.lt_succ_self _) _)
    have X26 : Hid (Box W24 (w.heap.size + 1) 28 #[.slice none 0 0, .slice none 0 0, .slice none 0 0, .slice none 0 0, .int .i64 0]) := Lib.hid (by rw [hW24]; exact (X11.out.allN5 rfl _ _ _ _ _))
    have X27 := Lib.hid (X10.out.btw hB25 (by have := Z2.out; have := Z13.out; omega))
    have hb28 := Btw.lowSize hB25 hb12 (Nat.le_of_lt X11.out.lt) (by have := Z2.out; have := Z13.out; omega)
    have Z29 : Hid (w1.heap.size ≤ W24.heap.size) := Lib.hid hB25.size
    rw [← hW24]
    clear hW24 hB25 X11 X10 hb12
    have r1 := X26.out
    have t0 := r1.cell 0 rfl
    have t1 := r1.cell 1 rfl
    have t2 := r1.cell 2 rfl
    have t3 := r1.cell 3 rfl
    have t4 := r1.cell 4 rfl
    refine bodyPost_ret (v := .tuple #[.agg #[.slice none 0 0, .slice none 0 0, .slice none 0 0, .slice none 0 0, .int .i64 0], .slice none 0 0, .bool false, .int .i64 cd]) (by simp [results, Try.results13, go_sem, t0, t1, t2, t3, t4]) rfl ?_
    exact givesMR_none none 0 hcd hz hb28
set_option maxRecDepth 100000 in
theorem specDmaMoveA (A0 A1 A2 A3 : Option Addr) (c0 c1 c2 c3 : Nat) (d0 d1 d2 : List Int) (d3 : List Bool) (d4 : Int) (E : Option Addr) (f : Nat) (rs : List TChannel) (i : Int) (w : World) (h : RepA w [.slice A0 d0.length c0, .slice A1 d1.length c1, .slice A2 d2.length c2, .slice A3 d3.length c3] [.I d0, .I d1, .I d2, .B d3]) (_c : CapA [.slice A0 d0.length c0, .slice A1 d1.length c1, .slice A2 d2.length c2, .slice A3 d3.length c3]) (z : szA [.I d0, .I d1, .I d2, .B d3] ≤ 1048576) (h' : RepA w [.slice E rs.length f] [rChannel rs]) (_c' : CapA [.slice E rs.length f]) (z' : szA [rChannel rs] ≤ 1048576) :
    Calls Try.prog 16 #[.agg #[.slice A0 d0.length c0, .slice A1 d1.length c1, .slice A2 d2.length c2, .slice A3 d3.length c3, .int .i64 d4], .slice E rs.length f, .int .i64 i] w (GivesMR (dmaM ⟨d0, d1, d2, d3, d4⟩ rs i) (dmaR ⟨d0, d1, d2, d3, d4⟩ rs i) (dmaT ⟨d0, d1, d2, d3, d4⟩ rs i) (moveCode ⟨d0, d1, d2, d3, d4⟩ rs i) w) := by
  simp only [szA, Lf.sz] at z
  exact specDmaMove A0 A1 A2 A3 _ _ _ _ c0 c1 c2 c3 ⟨d0, d1, d2, d3, d4⟩ E _ f rs i w rfl rfl rfl rfl (by unfold maxLen; omega) (by unfold maxLen; omega) (by unfold maxLen; omega) (by unfold maxLen; omega) (repI h.1) (repI h.2.1) (repI h.2.2.1) (repB h.2.2.2.1) rfl (rowsLen z') (rowsOf h')
set_option maxRecDepth 100000 in
theorem implDmaMoveA (A0 A1 A2 A3 : Option Addr) (c0 c1 c2 c3 : Nat) (d0 d1 d2 : List Int) (d3 : List Bool) (d4 : Int) (E : Option Addr) (f : Nat) (rs : List TChannel) (i : Int) (w : World) (h : RepA w [.slice A0 d0.length c0, .slice A1 d1.length c1, .slice A2 d2.length c2, .slice A3 d3.length c3] [.I d0, .I d1, .I d2, .B d3]) (_c : CapA [.slice A0 d0.length c0, .slice A1 d1.length c1, .slice A2 d2.length c2, .slice A3 d3.length c3]) (z : szA [.I d0, .I d1, .I d2, .B d3] ≤ 1048576) (h' : RepA w [.slice E rs.length f] [rChannel rs]) (_c' : CapA [.slice E rs.length f]) (z' : szA [rChannel rs] ≤ 1048576) :
    Calls Try.prog 13 #[.agg #[.slice A0 d0.length c0, .slice A1 d1.length c1, .slice A2 d2.length c2, .slice A3 d3.length c3, .int .i64 d4], .slice E rs.length f, .int .i64 i] w (GivesMR (dmaM ⟨d0, d1, d2, d3, d4⟩ rs i) (dmaR ⟨d0, d1, d2, d3, d4⟩ rs i) (dmaT ⟨d0, d1, d2, d3, d4⟩ rs i) (moveCode ⟨d0, d1, d2, d3, d4⟩ rs i) w) := by
  simp only [szA, Lf.sz] at z
  exact implDmaMove A0 A1 A2 A3 _ _ _ _ c0 c1 c2 c3 ⟨d0, d1, d2, d3, d4⟩ E _ f rs i w rfl rfl rfl rfl (by unfold maxLen; omega) (by unfold maxLen; omega) (by unfold maxLen; omega) (by unfold maxLen; omega) (repI h.1) (repI h.2.1) (repI h.2.2.1) (repB h.2.2.2.1) rfl (rowsLen z') (rowsOf h')
theorem dma_bnd (m : MD) (rs : List TChannel) (i : Int) (z' : szA [rChannel rs] ≤ 1048576) : lenA [.I (dmaM m rs i).r, .I (dmaM m rs i).i, .I (dmaM m rs i).z, .B (dmaM m rs i).g, rChannel (dmaR m rs i)] ≤ 4294967296 := by
  simp only [szA, sz_rChannel] at z'
  have hr := dmaR_len m rs i
  simp only [lenA, Lf.len_I, Lf.len_B, len_rChannel]
  by_cases hc : moveCode m rs i = 0
  · obtain ⟨hok, hdm, h2⟩ := moveCode0 hc
    have hom : m.Ok := MD.ok_iff.1 hok
    obtain ⟨k, rfl⟩ : ∃ k : Nat, i = k := ⟨i.toNat, by have := chanB_range h2; omega⟩
    have q := moveM_ok hom (dmaB_at hdm k (by have := chanB_range h2; omega))
    have ED : dmaM m rs k = moveM m (rs.getD k zChannel) := by unfold dmaM; rw [if_pos hc]; rfl
    rw [ED, q.r, q.i, q.z, q.g]
    omega
  · have ED : dmaM m rs i = zM := by unfold dmaM; rw [if_neg hc]
    rw [ED]
    simp only [zM, List.length_nil]
    omega
end Go.Proofs.Ytngoijchebfolaa

/- A []bool that came in, opened. -/
namespace Go.Proofs.Ytngoijchebfolaa
open Go.RowKit Go.ChangeShapes Go.WideShapes

theorem open_bools {H : Type} {enc : TypeId × Value → H} {P : Program} {w : World} {spare : Nat → Bool} {held : Bool} {t e : TypeId} {fuel : Nat} {v : Value} {x : DataW H × List MemPlace} (ht : P.underlying t = some (.slice e)) (he : P.underlying e = some .bool) (hce : P.cellsOf e = 1)
    (h : DataW.trod enc P w 0 spare held fuel t [v] = some x) :
    ∃ A n c, ∃ gs : List Bool, v = .slice A n c ∧ gs.length = n ∧ n ≤ maxLen ∧ BoolL w A gs := by
  rcases Deep.open_slice1 ht hce h with ⟨hcs, _⟩ | ⟨a, len, cap, m, k, V, D, Pl, hcs, _, hl, hm, hmm, _, hx⟩
  · injection hcs with hv _
    exact ⟨none, 0, 0, [], hv, rfl, by unfold maxLen; omega, fun i hi => by simp at hi⟩
  · injection hcs with hv _
    have hlm : len ≤ m := by rw [hmm]; split <;> omega
    obtain ⟨S, hS⟩ := Deep.choose_lt (n := len) (p := fun i (s : Bool) => w.cell? (a.add i) = some (.bool s)) (fun i hi => by
      obtain ⟨h1, h2⟩ := hx i (by omega)
      obtain ⟨s, hc, _⟩ := DataW.trod_bool he h2
      injection hc with hc _
      exact ⟨s, by rw [h1, hc]⟩)
    refine ⟨some a, len, cap, (List.range len).map S, hv, by simp, by omega, fun i hi => ?_⟩
    have hi' : i < len := by simpa using hi
    have h0 := hS 0 (by omega)
    have hsp := World.cell?_spot h0
    obtain ⟨b, off, spot⟩ := a
    have hsp' : spot = none := by simpa [Addr.add] using hsp
    subst hsp'
    have hc := add_plain (hS i hi') rfl
    exact ⟨b, off, rfl, by rw [getD_range len S _ i hi']; exact hc⟩
set_option maxRecDepth 100000 in
theorem cellsBool : Try.prog.cellsOf 4 = 1 := by kernel_rfl
set_option maxRecDepth 100000 in
theorem cellsOfI : Try.prog.cellsOf 23 = 1 := by kernel_rfl
set_option maxRecDepth 100000 in
theorem cellsOfB : Try.prog.cellsOf 24 = 1 := by kernel_rfl
end Go.Proofs.Ytngoijchebfolaa

/- What came in, opened into leaves. Written by gen_open.py. -/
namespace Go.Proofs.Ytngoijchebfolaa
open Go.RowKit Go.ChangeShapes Go.WideShapes
section
variable {H : Type} {enc : TypeId × Value → H} {W : World} {spare : Nat → Bool} {held : Bool}
theorem at_field {P : Program} {n : Nat} {fs : Array Field} {cs : List Value} {xs : List (DataW H × List MemPlace)} (hf : ∀ (i : Nat) (f : Field), fs[i]? = some f → DataW.trod enc P W 0 spare held n f.type (List.take (P.cellsOf f.type) (List.drop f.offset cs)) = xs[i]?) (hlen : xs.length = fs.size) (i : Nat) (f : Field) (hi : fs[i]? = some f) (k : Nat) (hk : P.cellsOf f.type = k) : ∃ y, DataW.trod enc P W 0 spare held n f.type (List.take k (List.drop f.offset cs)) = some y := by
  have h := hf i f hi
  have hlt : i < fs.size := (Array.getElem?_eq_some_iff.1 hi).1
  rw [hk, List.getElem?_eq_getElem (by omega)] at h
  exact ⟨_, h⟩
set_option maxRecDepth 100000 in
theorem openI {fuel : Nat} {v : Value} {x : DataW H × List MemPlace} (h : DataW.trod enc Try.prog W 0 spare held fuel 23 [v] = some x) : ∃ A c zs, v = .slice A zs.length c ∧ RepL W v (.I zs) ∧ (Lf.I zs).fit := by
  obtain ⟨A, n, c, zs, rfl, hl, hn, hs, _⟩ := open_ints64 Try.underlying23 Try.underlying3 cellsInt h
  subst hl
  exact ⟨A, c, zs, rfl, ⟨A, c, rfl, hs⟩, hn⟩
set_option maxRecDepth 100000 in
theorem openB {fuel : Nat} {v : Value} {x : DataW H × List MemPlace} (h : DataW.trod enc Try.prog W 0 spare held fuel 24 [v] = some x) : ∃ A c zs, v = .slice A zs.length c ∧ RepL W v (.B zs) ∧ (Lf.B zs).fit := by
  obtain ⟨A, n, c, zs, rfl, hl, hn, hs⟩ := open_bools Try.underlying24 Try.underlying4 cellsBool h
  subst hl
  exact ⟨A, c, zs, rfl, ⟨A, c, rfl, hs⟩, hn⟩
end
theorem list3 {l : List Value} (h : l.length = 3) : ∃ c0 c1 c2 : Value, l = [c0, c1, c2] := by
  match l, h with
  | [c0, c1, c2], _ => exact ⟨c0, c1, c2, rfl⟩
set_option maxRecDepth 100000 in
theorem cellsLFlash : Try.prog.cellsOf 45 = 3 := by kernel_rfl
set_option maxRecDepth 100000 in
theorem opencFlash {H : Type} {enc : TypeId × Value → H} {W : World} {spare : Nat → Bool} {held : Bool} {fuel : Nat} {cs : List Value} {x : DataW H × List MemPlace} (h : DataW.trod enc Try.prog W 0 spare held fuel 45 cs = some x) :
    ∃ (vA0 : Option Addr) (vA1 : Option Addr) (vc0 : Nat) (vc1 : Nat) (d0 : List Int) (d1 : List Bool) (d2 : Int), cs = [.slice vA0 d0.length vc0, .slice vA1 d1.length vc1, .int .i64 d2] ∧ RepA W [.slice vA0 d0.length vc0, .slice vA1 d1.length vc1] [Lf.I d0, Lf.B d1] ∧ FitA [Lf.I d0, Lf.B d1] := by
  obtain ⟨xs, n, _, rfl, hl, hlen, hf⟩ := DataW.trod_struct Try.underlying45 h
  obtain ⟨c0, c1, c2, rfl⟩ := list3 (hl.trans cellsLFlash)
  obtain ⟨y0, h0⟩ : ∃ y, DataW.trod enc Try.prog W 0 spare held n 23 [c0] = some y := at_field hf hlen 0 _ rfl 1 cellsOfI
  obtain ⟨vA0, vc0, d0, e0, R0, G0⟩ := openI h0
  subst e0
  obtain ⟨y1, h1⟩ : ∃ y, DataW.trod enc Try.prog W 0 spare held n 24 [c1] = some y := at_field hf hlen 1 _ rfl 1 cellsOfB
  obtain ⟨vA1, vc1, d1, e1, R1, G1⟩ := openB h1
  subst e1
  obtain ⟨y2, h2⟩ : ∃ y, DataW.trod enc Try.prog W 0 spare held n 3 [c2] = some y := at_field hf hlen 2 _ rfl 1 cellsInt
  obtain ⟨d2, e2, _, _⟩ := DataW.trod_int Try.underlying3 h2
  injection e2 with e2 _
  subst e2
  refine ⟨vA0, vA1, vc0, vc1, d0, d1, d2, rfl, ⟨R0, R1, trivial⟩, ?_⟩
  intro d hd
  simp only [List.mem_cons, List.not_mem_nil, or_false] at hd
  rcases hd with rfl | rfl
  · exact G0
  · exact G1
set_option maxRecDepth 100000 in
theorem openFlash {H : Type} {enc : TypeId × Value → H} {W : World} {r : Reach} {b0 : Nat} {v : Value} {d : DataW H} {p : List MemPlace} (hv : Value.okWide Try.prog W r b0 45 v) (h : DataW.Trod enc Try.prog W 0 (fun _ => true) true 45 v d p) :
    ∃ (vA0 : Option Addr) (vA1 : Option Addr) (vc0 : Nat) (vc1 : Nat) (d0 : List Int) (d1 : List Bool) (d2 : Int), v = .agg #[.slice vA0 d0.length vc0, .slice vA1 d1.length vc1, .int .i64 d2] ∧ RepA W [.slice vA0 d0.length vc0, .slice vA1 d1.length vc1] [Lf.I d0, Lf.B d1] ∧ FitA [Lf.I d0, Lf.B d1] := by
  obtain ⟨cs, rfl, _⟩ := okWide_struct Try.underlying45 hv
  obtain ⟨fuel, hf⟩ := h
  obtain ⟨vA0, vA1, vc0, vc1, d0, d1, d2, e, R, G⟩ := opencFlash hf
  refine ⟨vA0, vA1, vc0, vc1, d0, d1, d2, ?_, R, G⟩
  congr 1
  apply Array.ext'
  simpa [Value.cells] using e
theorem list5 {l : List Value} (h : l.length = 5) : ∃ c0 c1 c2 c3 c4 : Value, l = [c0, c1, c2, c3, c4] := by
  match l, h with
  | [c0, c1, c2, c3, c4], _ => exact ⟨c0, c1, c2, c3, c4, rfl⟩
set_option maxRecDepth 100000 in
theorem cellsLMem : Try.prog.cellsOf 47 = 5 := by kernel_rfl
set_option maxRecDepth 100000 in
theorem opencMem {H : Type} {enc : TypeId × Value → H} {W : World} {spare : Nat → Bool} {held : Bool} {fuel : Nat} {cs : List Value} {x : DataW H × List MemPlace} (h : DataW.trod enc Try.prog W 0 spare held fuel 47 cs = some x) :
    ∃ (vA0 : Option Addr) (vA1 : Option Addr) (vA2 : Option Addr) (vA3 : Option Addr) (vc0 : Nat) (vc1 : Nat) (vc2 : Nat) (vc3 : Nat) (d0 : List Int) (d1 : List Int) (d2 : List Int) (d3 : List Bool) (d4 : Int), cs = [.slice vA0 d0.length vc0, .slice vA1 d1.length vc1, .slice vA2 d2.length vc2, .slice vA3 d3.length vc3, .int .i64 d4] ∧ RepA W [.slice vA0 d0.length vc0, .slice vA1 d1.length vc1, .slice vA2 d2.length vc2, .slice vA3 d3.length vc3] [Lf.I d0, Lf.I d1, Lf.I d2, Lf.B d3] ∧ FitA [Lf.I d0, Lf.I d1, Lf.I d2, Lf.B d3] := by
  obtain ⟨xs, n, _, rfl, hl, hlen, hf⟩ := DataW.trod_struct Try.underlying47 h
  obtain ⟨c0, c1, c2, c3, c4, rfl⟩ := list5 (hl.trans cellsLMem)
  obtain ⟨y0, h0⟩ : ∃ y, DataW.trod enc Try.prog W 0 spare held n 23 [c0] = some y := at_field hf hlen 0 _ rfl 1 cellsOfI
  obtain ⟨vA0, vc0, d0, e0, R0, G0⟩ := openI h0
  subst e0
  obtain ⟨y1, h1⟩ : ∃ y, DataW.trod enc Try.prog W 0 spare held n 23 [c1] = some y := at_field hf hlen 1 _ rfl 1 cellsOfI
  obtain ⟨vA1, vc1, d1, e1, R1, G1⟩ := openI h1
  subst e1
  obtain ⟨y2, h2⟩ : ∃ y, DataW.trod enc Try.prog W 0 spare held n 45 [c2, c3, c4] = some y := at_field hf hlen 2 _ rfl 3 cellsLFlash
  obtain ⟨vA2, vA3, vc2, vc3, d2, d3, d4, e2, R2, G2⟩ := opencFlash h2
  simp only [List.cons.injEq, and_true] at e2
  obtain ⟨rfl, rfl, rfl⟩ := e2
  refine ⟨vA0, vA1, vA2, vA3, vc0, vc1, vc2, vc3, d0, d1, d2, d3, d4, rfl, ⟨R0, R1, R2.1, R2.2.1, trivial⟩, ?_⟩
  intro d hd
  simp only [List.mem_cons, List.not_mem_nil, or_false] at hd
  rcases hd with rfl | rfl | rfl | rfl
  · exact G0
  · exact G1
  · exact G2 _ (by simp)
  · exact G2 _ (by simp)
set_option maxRecDepth 100000 in
theorem openMem {H : Type} {enc : TypeId × Value → H} {W : World} {r : Reach} {b0 : Nat} {v : Value} {d : DataW H} {p : List MemPlace} (hv : Value.okWide Try.prog W r b0 47 v) (h : DataW.Trod enc Try.prog W 0 (fun _ => true) true 47 v d p) :
    ∃ (vA0 : Option Addr) (vA1 : Option Addr) (vA2 : Option Addr) (vA3 : Option Addr) (vc0 : Nat) (vc1 : Nat) (vc2 : Nat) (vc3 : Nat) (d0 : List Int) (d1 : List Int) (d2 : List Int) (d3 : List Bool) (d4 : Int), v = .agg #[.slice vA0 d0.length vc0, .slice vA1 d1.length vc1, .slice vA2 d2.length vc2, .slice vA3 d3.length vc3, .int .i64 d4] ∧ RepA W [.slice vA0 d0.length vc0, .slice vA1 d1.length vc1, .slice vA2 d2.length vc2, .slice vA3 d3.length vc3] [Lf.I d0, Lf.I d1, Lf.I d2, Lf.B d3] ∧ FitA [Lf.I d0, Lf.I d1, Lf.I d2, Lf.B d3] := by
  obtain ⟨cs, rfl, _⟩ := okWide_struct Try.underlying47 hv
  obtain ⟨fuel, hf⟩ := h
  obtain ⟨vA0, vA1, vA2, vA3, vc0, vc1, vc2, vc3, d0, d1, d2, d3, d4, e, R, G⟩ := opencMem hf
  refine ⟨vA0, vA1, vA2, vA3, vc0, vc1, vc2, vc3, d0, d1, d2, d3, d4, ?_, R, G⟩
  congr 1
  apply Array.ext'
  simpa [Value.cells] using e
theorem list2 {l : List Value} (h : l.length = 2) : ∃ c0 c1 : Value, l = [c0, c1] := by
  match l, h with
  | [c0, c1], _ => exact ⟨c0, c1, rfl⟩
theorem list9 {l : List Value} (h : l.length = 9) : ∃ c0 c1 c2 c3 c4 c5 c6 c7 c8 : Value, l = [c0, c1, c2, c3, c4, c5, c6, c7, c8] := by
  match l, h with
  | [c0, c1, c2, c3, c4, c5, c6, c7, c8], _ => exact ⟨c0, c1, c2, c3, c4, c5, c6, c7, c8, rfl⟩
set_option maxRecDepth 100000 in
theorem cellsLCpu : Try.prog.cellsOf 44 = 9 := by kernel_rfl
set_option maxRecDepth 100000 in
theorem opencCpu {H : Type} {enc : TypeId × Value → H} {W : World} {spare : Nat → Bool} {held : Bool} {fuel : Nat} {cs : List Value} {x : DataW H × List MemPlace} (h : DataW.trod enc Try.prog W 0 spare held fuel 44 cs = some x) :
    ∃ (vA8 : Option Addr) (vc8 : Nat) (d0 : Int) (d1 : Int) (d2 : Int) (d3 : Int) (d4 : Bool) (d5 : Bool) (d6 : Bool) (d7 : Bool) (d8 : List Int), cs = [.int .i64 d0, .int .i64 d1, .int .i64 d2, .int .i64 d3, .bool d4, .bool d5, .bool d6, .bool d7, .slice vA8 d8.length vc8] ∧ RepA W [.slice vA8 d8.length vc8] [Lf.I d8] ∧ FitA [Lf.I d8] := by
  obtain ⟨xs, n, _, rfl, hl, hlen, hf⟩ := DataW.trod_struct Try.underlying44 h
  obtain ⟨c0, c1, c2, c3, c4, c5, c6, c7, c8, rfl⟩ := list9 (hl.trans cellsLCpu)
  obtain ⟨y0, h0⟩ : ∃ y, DataW.trod enc Try.prog W 0 spare held n 3 [c0] = some y := at_field hf hlen 0 _ rfl 1 cellsInt
  obtain ⟨d0, e0, _, _⟩ := DataW.trod_int Try.underlying3 h0
  injection e0 with e0 _
  subst e0
  obtain ⟨y1, h1⟩ : ∃ y, DataW.trod enc Try.prog W 0 spare held n 3 [c1] = some y := at_field hf hlen 1 _ rfl 1 cellsInt
  obtain ⟨d1, e1, _, _⟩ := DataW.trod_int Try.underlying3 h1
  injection e1 with e1 _
  subst e1
  obtain ⟨y2, h2⟩ : ∃ y, DataW.trod enc Try.prog W 0 spare held n 3 [c2] = some y := at_field hf hlen 2 _ rfl 1 cellsInt
  obtain ⟨d2, e2, _, _⟩ := DataW.trod_int Try.underlying3 h2
  injection e2 with e2 _
  subst e2
  obtain ⟨y3, h3⟩ : ∃ y, DataW.trod enc Try.prog W 0 spare held n 3 [c3] = some y := at_field hf hlen 3 _ rfl 1 cellsInt
  obtain ⟨d3, e3, _, _⟩ := DataW.trod_int Try.underlying3 h3
  injection e3 with e3 _
  subst e3
  obtain ⟨y4, h4⟩ : ∃ y, DataW.trod enc Try.prog W 0 spare held n 4 [c4] = some y := at_field hf hlen 4 _ rfl 1 cellsBool
  obtain ⟨d4, e4, _⟩ := DataW.trod_bool Try.underlying4 h4
  injection e4 with e4 _
  subst e4
  obtain ⟨y5, h5⟩ : ∃ y, DataW.trod enc Try.prog W 0 spare held n 4 [c5] = some y := at_field hf hlen 5 _ rfl 1 cellsBool
  obtain ⟨d5, e5, _⟩ := DataW.trod_bool Try.underlying4 h5
  injection e5 with e5 _
  subst e5
  obtain ⟨y6, h6⟩ : ∃ y, DataW.trod enc Try.prog W 0 spare held n 4 [c6] = some y := at_field hf hlen 6 _ rfl 1 cellsBool
  obtain ⟨d6, e6, _⟩ := DataW.trod_bool Try.underlying4 h6
  injection e6 with e6 _
  subst e6
  obtain ⟨y7, h7⟩ : ∃ y, DataW.trod enc Try.prog W 0 spare held n 4 [c7] = some y := at_field hf hlen 7 _ rfl 1 cellsBool
  obtain ⟨d7, e7, _⟩ := DataW.trod_bool Try.underlying4 h7
  injection e7 with e7 _
  subst e7
  obtain ⟨y8, h8⟩ : ∃ y, DataW.trod enc Try.prog W 0 spare held n 23 [c8] = some y := at_field hf hlen 8 _ rfl 1 cellsOfI
  obtain ⟨vA8, vc8, d8, e8, R8, G8⟩ := openI h8
  subst e8
  refine ⟨vA8, vc8, d0, d1, d2, d3, d4, d5, d6, d7, d8, rfl, ⟨R8, trivial⟩, ?_⟩
  intro d hd
  simp only [List.mem_cons, List.not_mem_nil, or_false] at hd
  rcases hd with rfl
  · exact G8
set_option maxRecDepth 100000 in
theorem openCpu {H : Type} {enc : TypeId × Value → H} {W : World} {r : Reach} {b0 : Nat} {v : Value} {d : DataW H} {p : List MemPlace} (hv : Value.okWide Try.prog W r b0 44 v) (h : DataW.Trod enc Try.prog W 0 (fun _ => true) true 44 v d p) :
    ∃ (vA8 : Option Addr) (vc8 : Nat) (d0 : Int) (d1 : Int) (d2 : Int) (d3 : Int) (d4 : Bool) (d5 : Bool) (d6 : Bool) (d7 : Bool) (d8 : List Int), v = .agg #[.int .i64 d0, .int .i64 d1, .int .i64 d2, .int .i64 d3, .bool d4, .bool d5, .bool d6, .bool d7, .slice vA8 d8.length vc8] ∧ RepA W [.slice vA8 d8.length vc8] [Lf.I d8] ∧ FitA [Lf.I d8] := by
  obtain ⟨cs, rfl, _⟩ := okWide_struct Try.underlying44 hv
  obtain ⟨fuel, hf⟩ := h
  obtain ⟨vA8, vc8, d0, d1, d2, d3, d4, d5, d6, d7, d8, e, R, G⟩ := opencCpu hf
  refine ⟨vA8, vc8, d0, d1, d2, d3, d4, d5, d6, d7, d8, ?_, R, G⟩
  congr 1
  apply Array.ext'
  simpa [Value.cells] using e
theorem list4 {l : List Value} (h : l.length = 4) : ∃ c0 c1 c2 c3 : Value, l = [c0, c1, c2, c3] := by
  match l, h with
  | [c0, c1, c2, c3], _ => exact ⟨c0, c1, c2, c3, rfl⟩
set_option maxRecDepth 100000 in
theorem cellsLChannel : Try.prog.cellsOf 66 = 4 := by kernel_rfl
set_option maxRecDepth 100000 in
theorem opencChannel {H : Type} {enc : TypeId × Value → H} {W : World} {spare : Nat → Bool} {held : Bool} {fuel : Nat} {cs : List Value} {x : DataW H × List MemPlace} (h : DataW.trod enc Try.prog W 0 spare held fuel 66 cs = some x) :
    ∃ (d0 : Int) (d1 : Int) (d2 : Int) (d3 : Int), cs = [.int .i64 d0, .int .i64 d1, .int .i64 d2, .int .i64 d3] ∧ RepA W [] [] ∧ FitA [] := by
  obtain ⟨xs, n, _, rfl, hl, hlen, hf⟩ := DataW.trod_struct Try.underlying66 h
  obtain ⟨c0, c1, c2, c3, rfl⟩ := list4 (hl.trans cellsLChannel)
  obtain ⟨y0, h0⟩ : ∃ y, DataW.trod enc Try.prog W 0 spare held n 3 [c0] = some y := at_field hf hlen 0 _ rfl 1 cellsInt
  obtain ⟨d0, e0, _, _⟩ := DataW.trod_int Try.underlying3 h0
  injection e0 with e0 _
  subst e0
  obtain ⟨y1, h1⟩ : ∃ y, DataW.trod enc Try.prog W 0 spare held n 3 [c1] = some y := at_field hf hlen 1 _ rfl 1 cellsInt
  obtain ⟨d1, e1, _, _⟩ := DataW.trod_int Try.underlying3 h1
  injection e1 with e1 _
  subst e1
  obtain ⟨y2, h2⟩ : ∃ y, DataW.trod enc Try.prog W 0 spare held n 3 [c2] = some y := at_field hf hlen 2 _ rfl 1 cellsInt
  obtain ⟨d2, e2, _, _⟩ := DataW.trod_int Try.underlying3 h2
  injection e2 with e2 _
  subst e2
  obtain ⟨y3, h3⟩ : ∃ y, DataW.trod enc Try.prog W 0 spare held n 3 [c3] = some y := at_field hf hlen 3 _ rfl 1 cellsInt
  obtain ⟨d3, e3, _, _⟩ := DataW.trod_int Try.underlying3 h3
  injection e3 with e3 _
  subst e3
  refine ⟨d0, d1, d2, d3, rfl, trivial, ?_⟩
  intro d hd
  cases hd
set_option maxRecDepth 100000 in
theorem openChannel {H : Type} {enc : TypeId × Value → H} {W : World} {r : Reach} {b0 : Nat} {v : Value} {d : DataW H} {p : List MemPlace} (hv : Value.okWide Try.prog W r b0 66 v) (h : DataW.Trod enc Try.prog W 0 (fun _ => true) true 66 v d p) :
    ∃ (d0 : Int) (d1 : Int) (d2 : Int) (d3 : Int), v = .agg #[.int .i64 d0, .int .i64 d1, .int .i64 d2, .int .i64 d3] ∧ RepA W [] [] ∧ FitA [] := by
  obtain ⟨cs, rfl, _⟩ := okWide_struct Try.underlying66 hv
  obtain ⟨fuel, hf⟩ := h
  obtain ⟨d0, d1, d2, d3, e, R, G⟩ := opencChannel hf
  refine ⟨d0, d1, d2, d3, ?_, R, G⟩
  congr 1
  apply Array.ext'
  simpa [Value.cells] using e
set_option maxRecDepth 100000 in
theorem openRChannel {H : Type} {enc : TypeId × Value → H} {W : World} {spare : Nat → Bool} {held : Bool} {fuel : Nat} {v : Value} {x : DataW H × List MemPlace} (h : DataW.trod enc Try.prog W 0 spare held fuel 59 [v] = some x) :
    ∃ A c rs, v = .slice A rs.length c ∧ RepL W v (rChannel rs) ∧ (rChannel rs).fit := by
  rcases Deep.open_slice Try.underlying59 h with ⟨hcs, _⟩ | ⟨a, len, cap, m, k, D, Pl, hcs, _, hl, hm, hmm, _, hx⟩
  · injection hcs with hv _
    exact ⟨none, 0, [], hv, by rw [hv]; exact rep_rChannel.2 ⟨rfl, fun i hi => by simp at hi⟩, by simp [rChannel, Lf.fit]⟩
  · injection hcs with hv _
    have hlm : len ≤ m := by rw [hmm]; split <;> omega
    rw [cellsLChannel] at hx
    obtain ⟨S, hS⟩ := Deep.choose_lt (n := len) (p := fun i (s : TChannel) => ∀ j, j < 4 → W.cell? ((a.add (i * 4)).add j) = some ((rowChannel s).getD j undef)) (fun i hi => by
      obtain ⟨cs, g1, g2⟩ := hx i (by omega)
      obtain ⟨_, hlen, hcell⟩ := World.cells?_some g1
      obtain ⟨d0, d1, d2, d3, e, _, _⟩ := opencChannel g2
      subst e
      refine ⟨(d0, d1, d2, d3), fun j hj => ?_⟩
      have hc := hcell j hj
      have hj' : j = 0 ∨ j = 1 ∨ j = 2 ∨ j = 3 := by omega
      rcases hj' with rfl | rfl | rfl | rfl <;> simpa [rowChannel] using hc)
    have hrow : RowL W (some a) 4 (((List.range len).map S).map rowChannel) := fun i hi j hj => by
      have hi' : i < len := by simpa using hi
      have h0 := hS 0 (by omega) 0 (by decide)
      have hsp := World.cell?_spot h0
      obtain ⟨b, off, spot⟩ := a
      have hsp' : spot = none := by simpa [Addr.add] using hsp
      subst hsp'
      refine ⟨b, off, rfl, ?_⟩
      rw [rowChannel_at _ i (by simpa using hi'), getD_range len S _ i hi']
      have h1 := hS i hi' j hj
      rw [Deep.add_add] at h1
      have h2 := add_plain (b := b) (off := off) h1 rfl
      rwa [← Nat.add_assoc] at h2
    exact ⟨some a, cap, (List.range len).map S, by rw [hv]; simp, by rw [hv]; exact rep_rChannel.2 ⟨by simp, hrow⟩, by simp [rChannel, Lf.fit]; omega⟩
end Go.Proofs.Ytngoijchebfolaa
