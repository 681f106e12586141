/- SetChannel on both sides. -/
import Derived.Test.YtngoijchebfolaaClone9
namespace Go.Proofs.Ytngoijchebfolaa
open Go.RowKit

theorem chanC0 {rs : List TChannel} {i : Int} (h : chanC rs i = 0) : dmaB rs = true ∧ chanB i = true := by
  unfold chanC at h
  by_cases h1 : 4096 < rs.length
  · rw [if_pos h1] at h; omega
  · rw [if_neg h1] at h
    by_cases h2 : dmaB rs = true
    · rw [if_pos h2] at h
      by_cases h3 : chanB i = true
      · exact ⟨h2, h3⟩
      · rw [if_neg h3] at h; omega
    · rw [if_neg h2] at h; omega
theorem setCode_no {rs : List TChannel} {i : Int} (c : TChannel) (h : chanC rs i ≠ 0) : setCode rs i c = chanC rs i := by
  unfold chanC setCode at *
  by_cases h1 : 4096 < rs.length
  · rw [if_pos h1, if_pos h1]
  · rw [if_neg h1] at h ⊢
    rw [if_neg h1]
    by_cases h2 : dmaB rs = true
    · rw [if_pos h2] at h ⊢
      rw [if_pos h2]
      by_cases h3 : chanB i = true
      · rw [if_pos h3] at h; omega
      · have h3' : chanB i = false := by simpa using h3
        rw [h3']; rfl
    · rw [if_neg h2, if_neg h2]
theorem setCode_yes {rs : List TChannel} {i : Int} (c : TChannel) (h : chanC rs i = 0) : setCode rs i c = if chB c = true then 0 else 4 := by
  obtain ⟨h2, h3⟩ := chanC0 h
  have hl := (dmaB_len h2).1
  unfold setCode
  rw [if_neg (by omega), if_pos h2, h3, Bool.true_and]
theorem setRs_no {rs : List TChannel} {i : Int} {c : TChannel} (h : setCode rs i c ≠ 0) : setRs rs i c = [] := by unfold setRs; rw [if_neg h]
theorem setRs_yes {rs : List TChannel} {i : Int} {c : TChannel} (h : setCode rs i c = 0) : setRs rs i c = rs.set i.toNat c := by unfold setRs; rw [if_pos h]
theorem setCh_bnd (rs : List TChannel) (i : Int) (c : TChannel) (z : szA [rChannel rs] ≤ 1048576) : lenA [rChannel (setRs rs i c)] ≤ 4294967296 := by
  simp only [szA, sz_rChannel] at z
  simp only [lenA, len_rChannel]
  have := setRs_len rs i c
  omega
theorem gives_none (w w' : World) (A : Option Addr) (c : Nat) (code : Int) (h : Below w.heap.size w w') : GivesRsCode [] code w (.returned (.tuple #[.slice A 0 c, .int .i64 code])) w' :=
  ⟨A, c, rfl, Lib.hid (OwnA.one (own_rChannel.2 ⟨rfl, .inl rfl⟩)), h⟩
theorem gives_some {w w' : World} {A : Option Addr} {n c : Nat} {code : Int} {rs : List TChannel} (hl : rs.length = n) (h : OwnChannel w' w.heap.size w'.heap.size A rs) (hb : Below w.heap.size w w') : GivesRsCode rs code w (.returned (.tuple #[.slice A n c, .int .i64 code])) w' := by
  subst hl
  exact ⟨A, c, rfl, Lib.hid (OwnA.one (own_rChannel.2 ⟨rfl, h⟩)), hb⟩
section
variable (A0 : Option Addr) (c0 : Nat) (d0 : List TChannel) (i x1 x2 x3 x4 : Int) (w : World)
set_option maxRecDepth 100000 in
set_option maxHeartbeats 4000000 in
theorem specSetChannelA (h : RepA w [.slice A0 d0.length c0] [rChannel d0]) (_c : CapA [.slice A0 d0.length c0]) (z : szA [rChannel d0] ≤ 1048576) :
    Calls Try.prog 37 #[.slice A0 d0.length c0, .int .i64 i, .agg #[.int .i64 x1, .int .i64 x2, .int .i64 x3, .int .i64 x4]] w (GivesRsCode (setRs d0 i (x1, x2, x3, x4)) (setCode d0 i (x1, x2, x3, x4)) w) := by
  have hrow := rowsOf h
  have hn := rowsLen z
  clear h _c z
  generalize hl : d0.length = n at hn ⊢
  obtain ⟨W0, hW0⟩ : ∃ W0, W0 = w.alloc (.cells #[.int .i64 x1, .int .i64 x2, .int .i64 x3, .int .i64 x4] 36) := ⟨_, rfl⟩
  have hb0 : Below w.heap.size w W0 := by rw [hW0]; exact alloc_below _ _
  have X0 : Hid (Box W0 w.heap.size 36 #[.int .i64 x1, .int .i64 x2, .int .i64 x3, .int .i64 x4]) := Lib.hid (by rw [hW0]; exact Box.new _ _ _)
  have HD := Lib.hid (specDmaOK A0 n c0 d0 W0 hl hn (hrow.below hb0))
  have HCh := Lib.hid (fun W => l09Channel x1 x2 x3 x4 W)
  have HL := Lib.hid hl
  have HRow := Lib.hid hrow
  have HW0 := Lib.hid hW0
  have HS : Hid (setCode d0 i (x1, x2, x3, x4) = if 4096 < n then 2 else if dmaB d0 = true then (if (chanB i && chB (x1, x2, x3, x4)) = true then 0 else 4) else 1) := Lib.hid (by unfold setCode; rw [hl])
  unfold maxLen at hn
  clear hl hrow hW0
  by_cases hm : 4096 < n
  · have hq : (4096 : Int) < (n : Int) := by omega
    have e1 : setCode d0 i (x1, x2, x3, x4) = 2 := by rw [HS.out, if_pos hm]
    rw [setRs_no (by omega), e1]
    have hb1 := bt hb0 (alloc_below W0 (.cells #[] 36))
    clear hm HS e1 HD HCh X0
    go_enter Try.func37, Try.ntmps37
    go_wp2
    rw [← HW0.out]
    go_ret2
    exact gives_none _ _ _ _ _ hb1
  · have hq : ¬ (4096 : Int) < (n : Int) := by omega
    rw [if_neg hm] at HS
    clear hm
    by_cases h1 : dmaB d0 = true
    · rw [h1] at HD HS
      rw [if_pos rfl] at HS
      have hn4 : n = 4 := by rw [← HL.out]; exact (dmaB_len h1).1
      subst hn4
      clear h1
      cases h2 : chanB i with
      | false =>
        have k2 : decide (0 ≤ i ∧ i ≤ 3) = false := h2
        have e1 : setCode d0 i (x1, x2, x3, x4) = 4 := by rw [HS.out, h2]; rfl
        rw [setRs_no (by omega), e1]
        clear HS e1 h2
        go_enter Try.func37, Try.ntmps37
        go_wp2_with fail
        rw [← HW0.out]
        refine HD.out.mono ?_
        rintro e w1 ⟨rfl, hb1⟩
        have hb2 := bt (bt hb0 hb1) (alloc_below w1 (.cells #[] 36))
        go_wp2_with (first | (go_at_call 51; refine (l01InN _ _ _ _).mono ?_; rintro e w' ⟨rfl, rfl⟩; rw [k2]))
        go_ret2
        exact gives_none _ _ _ _ _ hb2
      | true =>
        have k2 : decide (0 ≤ i ∧ i ≤ 3) = true := h2
        rw [h2, Bool.true_and] at HS
        obtain ⟨k, rfl⟩ : ∃ k : Nat, i = k := ⟨i.toNat, by have := chanB_range h2; omega⟩
        have hk : k < 4 := by have := chanB_range h2; omega
        clear h2
        cases h3 : chB (x1, x2, x3, x4) with
        | false =>
          have e1 : setCode d0 k (x1, x2, x3, x4) = 4 := by rw [HS.out, h3]; rfl
          rw [setRs_no (by omega), e1]
          rw [h3] at HCh
          clear HS e1 h3
          go_enter Try.func37, Try.ntmps37
          go_wp2_with fail
          rw [← HW0.out]
          refine HD.out.mono ?_
          rintro e w1 ⟨rfl, hb1⟩
          have X1 := X0.out.step hb1
          have f0 := X1.cell 0 rfl
          have f1 := X1.cell 1 rfl
          have f2 := X1.cell 2 rfl
          have f3 := X1.cell 3 rfl
          clear X1
          go_wp2_with (first | (go_at_call 51; refine (l01InN _ _ _ _).mono ?_; rintro e w' ⟨rfl, rfl⟩; rw [k2]))
          refine (HCh.out _).mono ?_
          rintro e w2 ⟨rfl, hb2⟩
          clear f0 f1 f2 f3
          have hb3 := bt (bt (bt hb0 hb1) hb2) (alloc_below w2 (.cells #[] 36))
          go_wp2
          go_ret2
          exact gives_none _ _ _ _ _ hb3
        | true =>
          have e1 : setCode d0 k (x1, x2, x3, x4) = 0 := by rw [HS.out, h3]; rfl
          rw [setRs_yes e1, e1]
          rw [h3] at HCh
          clear HS e1 h3
          go_enter Try.func37, Try.ntmps37
          go_wp2_with fail
          rw [← HW0.out]
          refine HD.out.mono ?_
          rintro e w1 ⟨rfl, hb1⟩
          have X1 := Lib.hid (X0.out.step hb1)
          have f0 := X1.out.cell 0 rfl
          have f1 := X1.out.cell 1 rfl
          have f2 := X1.out.cell 2 rfl
          have f3 := X1.out.cell 3 rfl
          go_wp2_with (first | (go_at_call 51; refine (l01InN _ _ _ _).mono ?_; rintro e w' ⟨rfl, rfl⟩; rw [k2]))
          refine (HCh.out _).mono ?_
          rintro e w2 ⟨rfl, hb2⟩
          clear f0 f1 f2 f3
          have hb3 := bt (bt (bt hb0 hb1) hb2) (alloc_below w2 (.cells #[] 36))
          have X3 := Lib.hid ((X1.out.step hb2).step (alloc_below w2 (.cells #[] 36)))
          have hz : (w2.alloc (.cells #[] 36)).heap.size = w2.heap.size + 1 := by simp
          have hs2 := bt (bt hb0 hb1) hb2 |>.size
          have HSrc := Lib.hid ((HRow.out.below hb3).src (by rw [HL.out]; omega))
          have HC : Hid ((cellsCh d0).length = 4 * 4) := Lib.hid (by rw [cellsCh_len, HL.out])
          clear X0 X1 hb0 hb1 hb2
          go_wp2_with (first | (with_reducible refine wpList_app_fresh rfl (.tmp 25) (.tmp 26) 31 rfl 36 (.agg #[.int .i64 0, .int .i64 0, .int .i64 0, .int .i64 0]) 4 32 Try.underlying31 infoCh rfl (by decide) _ rfl A0 4 c0 (by decide) (cellsCh d0) rfl HC.out HSrc.out (by unfold maxLen; omega) (by omega) ?_))
          intro A1 c1 w4 hb4 O4
          have S4 := ownCh_fresh (lo := w.heap.size) O4.out HL.out (by omega)
          obtain ⟨b, m, f, rfl, ⟨g0, g1, g2, g3⟩, gz, q1, q2, hr, hput⟩ := S4.put k (by rw [HL.out]; exact hk)
          have X4 := X3.out.step (by rw [hz]; exact hb4)
          have f0 := X4.cell 0 rfl
          have f1 := X4.cell 1 rfl
          have f2 := X4.cell 2 rfl
          have f3 := X4.cell 3 rfl
          have gz0 := gz (k * 4)
          have gz1 := gz (k * 4 + 1)
          have gz2 := gz (k * 4 + 2)
          have gz3 := gz (k * 4 + 3)
          have HP := Lib.hid (hput (x1, x2, x3, x4))
          have hbe := (((((bt hb3 (by rw [hz]; exact hb4)).setCell (p := ⟨b, k * 4, none⟩) q1 (.int .i64 x1)).setCell (p := ⟨b, k * 4 + 1, none⟩) q1 (.int .i64 x2)).setCell (p := ⟨b, k * 4 + 2, none⟩) q1 (.int .i64 x3)).setCell (p := ⟨b, k * 4 + 3, none⟩) q1 (.int .i64 x4))
          have hk4 : (k : Int) < 4 := by omega
          have hk0 : (0 : Int) ≤ (k : Int) := by omega
          clear S4 hput hr gz X4 X3 O4 HSrc HC
          generalize (d0.getD k zChannel).1 = y1 at g0
          generalize (d0.getD k zChannel).2.1 = y2 at g1
          generalize (d0.getD k zChannel).2.2.1 = y3 at g2
          generalize (d0.getD k zChannel).2.2.2 = y4 at g3
          go_wp2
          go_ret2
          refine gives_some (rs := d0.set (k : Int).toNat (x1, x2, x3, x4)) (by rw [List.length_set]; exact HL.out) ?_ hbe
          simpa using HP.out
    · have h1' : dmaB d0 = false := by simpa using h1
      have e1 : setCode d0 i (x1, x2, x3, x4) = 1 := by rw [HS.out, if_neg h1]
      rw [setRs_no (by omega), e1]
      rw [h1'] at HD
      clear HS e1 h1 h1'
      go_enter Try.func37, Try.ntmps37
      go_wp2_with fail
      rw [← HW0.out]
      refine HD.out.mono ?_
      rintro e w1 ⟨rfl, hb1⟩
      have hb2 := bt (bt hb0 hb1) (alloc_below w1 (.cells #[] 36))
      go_wp2
      go_ret2
      exact gives_none _ _ _ _ _ hb2
set_option maxRecDepth 100000 in
set_option maxHeartbeats 4000000 in
theorem implSetChannelA (h : RepA w [.slice A0 d0.length c0] [rChannel d0]) (_c : CapA [.slice A0 d0.length c0]) (z : szA [rChannel d0] ≤ 1048576) :
    Calls Try.prog 11 #[.slice A0 d0.length c0, .int .i64 i, .agg #[.int .i64 x1, .int .i64 x2, .int .i64 x3, .int .i64 x4]] w (GivesRsCode (setRs d0 i (x1, x2, x3, x4)) (setCode d0 i (x1, x2, x3, x4)) w) := by
  have hrow := rowsOf h
  have hn := rowsLen z
  clear h _c z
  generalize hl : d0.length = n at hn ⊢
  obtain ⟨W0, hW0⟩ : ∃ W0, W0 = w.alloc (.cells #[.int .i64 x1, .int .i64 x2, .int .i64 x3, .int .i64 x4] 36) := ⟨_, rfl⟩
  have hb0 : Below w.heap.size w W0 := by rw [hW0]; exact alloc_below _ _
  have X0 : Hid (Box W0 w.heap.size 36 #[.int .i64 x1, .int .i64 x2, .int .i64 x3, .int .i64 x4]) := Lib.hid (by rw [hW0]; exact Box.new _ _ _)
  have HD := Lib.hid (checkChannel A0 n c0 d0 i W0 hl hn (hrow.below hb0))
  have HCh := Lib.hid (fun W => channelValid x1 x2 x3 x4 W)
  have HL := Lib.hid hl
  have HRow := Lib.hid hrow
  have HW0 := Lib.hid hW0
  unfold maxLen at hn
  clear hl hrow hW0
  by_cases hz : chanC d0 i = 0
  · have HS := Lib.hid (setCode_yes (x1, x2, x3, x4) hz)
    obtain ⟨h1, h2⟩ := chanC0 hz
    rw [hz] at HD
    have hn4 : n = 4 := by rw [← HL.out]; exact (dmaB_len h1).1
    subst hn4
    obtain ⟨k, rfl⟩ : ∃ k : Nat, i = k := ⟨i.toNat, by have := chanB_range h2; omega⟩
    have hk : k < 4 := by have := chanB_range h2; omega
    clear h1 h2 hz
    cases h3 : chB (x1, x2, x3, x4) with
    | false =>
      have e1 : setCode d0 k (x1, x2, x3, x4) = 4 := by rw [HS.out, h3]; rfl
      rw [setRs_no (by omega), e1]
      rw [h3] at HCh
      clear HS e1 h3
      go_enter Try.func11, Try.ntmps11
      go_wp2_with fail
      rw [← HW0.out]
      refine HD.out.mono ?_
      rintro e w1 ⟨rfl, hb1⟩
      have X1 := X0.out.step hb1
      have f0 := X1.cell 0 rfl
      have f1 := X1.cell 1 rfl
      have f2 := X1.cell 2 rfl
      have f3 := X1.cell 3 rfl
      clear X1
      go_wp2_with fail
      refine (HCh.out _).mono ?_
      rintro e w2 ⟨rfl, hb2⟩
      clear f0 f1 f2 f3
      have hb3 := bt (bt hb0 hb1) hb2
      go_wp2
      go_ret2
      exact gives_none _ _ _ _ _ hb3
    | true =>
      have e1 : setCode d0 k (x1, x2, x3, x4) = 0 := by rw [HS.out, h3]; rfl
      rw [setRs_yes e1, e1]
      rw [h3] at HCh
      clear HS e1 h3
      go_enter Try.func11, Try.ntmps11
      go_wp2_with fail
      rw [← HW0.out]
      refine HD.out.mono ?_
      rintro e w1 ⟨rfl, hb1⟩
      have X1 := Lib.hid (X0.out.step hb1)
      have f0 := X1.out.cell 0 rfl
      have f1 := X1.out.cell 1 rfl
      have f2 := X1.out.cell 2 rfl
      have f3 := X1.out.cell 3 rfl
      go_wp2_with fail
      refine (HCh.out _).mono ?_
      rintro e w2 ⟨rfl, hb2⟩
      clear f0 f1 f2 f3
      have hb3 := bt (bt hb0 hb1) hb2
      have HCl := Lib.hid (cloneCh A0 4 c0 d0 w2 HL.out (by decide) (by decide) (HRow.out.below hb3))
      have X2 := Lib.hid (X1.out.step hb2)
      clear X1 X0 hb0 hb1 hb2
      go_wp2_with fail
      refine HCl.out.mono ?_
      rintro e w4 ⟨A1, c1, rfl, S4, hb4⟩
      have hs4 := hb3.size
      obtain ⟨b, m, f, rfl, ⟨g0, g1, g2, g3⟩, gz, q1, q2, hr, hput⟩ := S4.out.put k (by rw [HL.out]; exact hk)
      have X4 := X2.out.step hb4
      have f0 := X4.cell 0 rfl
      have f1 := X4.cell 1 rfl
      have f2 := X4.cell 2 rfl
      have f3 := X4.cell 3 rfl
      have gz0 := gz (k * 4)
      have gz1 := gz (k * 4 + 1)
      have gz2 := gz (k * 4 + 2)
      have gz3 := gz (k * 4 + 3)
      have HP := Lib.hid (hput (x1, x2, x3, x4))
      have q1 : w.heap.size ≤ b := by omega
      have hbe := (((((bt hb3 hb4).setCell (p := ⟨b, k * 4, none⟩) q1 (.int .i64 x1)).setCell (p := ⟨b, k * 4 + 1, none⟩) q1 (.int .i64 x2)).setCell (p := ⟨b, k * 4 + 2, none⟩) q1 (.int .i64 x3)).setCell (p := ⟨b, k * 4 + 3, none⟩) q1 (.int .i64 x4))
      have hk4 : (k : Int) < 4 := by omega
      have hk0 : (0 : Int) ≤ (k : Int) := by omega
      clear S4 hput hr gz X4 X2 HCl
      generalize (d0.getD k zChannel).1 = y1 at g0
      generalize (d0.getD k zChannel).2.1 = y2 at g1
      generalize (d0.getD k zChannel).2.2.1 = y3 at g2
      generalize (d0.getD k zChannel).2.2.2 = y4 at g3
      go_wp2
      go_ret2
      refine gives_some (rs := d0.set (k : Int).toNat (x1, x2, x3, x4)) (by rw [List.length_set]; exact HL.out) ?_ hbe
      have := OwnR.wide HP.out hs4 (Nat.le_refl _)
      simpa [OwnChannel] using this
  · rw [setRs_no (by rw [setCode_no _ hz]; exact hz), setCode_no _ hz]
    generalize chanC d0 i = code at hz HD
    have hq : (code != 0) = true := by simpa using hz
    go_enter Try.func11, Try.ntmps11
    go_wp2_with fail
    rw [← HW0.out]
    refine HD.out.mono ?_
    rintro e w1 ⟨rfl, hb1⟩
    go_wp2
    go_ret2
    exact gives_none _ _ _ _ _ (bt hb0 hb1)
end
end Go.Proofs.Ytngoijchebfolaa
