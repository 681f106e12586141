/- The contract of impl.ProgramCell. -/
import Derived.Test.YtapopagphoiemaaFlashOps
import Derived.Test.YtapopagphoiemaaChipFlash
namespace Go.Proofs.Ytapopagphoiemaa
open Go.RowKit

set_option maxRecDepth 100000 in
set_option maxHeartbeats 4000000 in
theorem implProgramCell (A C : Option Addr) (n c m d : Nat) (st : Int) (zs : List Int) (gs : List Bool) (a v : Int) (w : World) (hl : zs.length = n) (hm : gs.length = m) (hn : n ≤ maxLen) (hmm : m ≤ maxLen) (h : IntL w A zs) (g : BoolL w C gs) :
    Calls Try.prog 32 #[.agg #[.slice A n c, .slice C m d, .int .i64 st], .int .i64 a, .int .i64 v] w (GivesFlashCode (progOf zs gs st a v).1 (progOf zs gs st a v).2.1 (progOf zs gs st a v).2.2.1 (progOf zs gs st a v).2.2.2 w) := by
  obtain ⟨W0, hW0⟩ : ∃ W0, W0 = ((w.alloc (.cells #[.slice A n c, .slice C m d, .int .i64 st] 26)).alloc (.cells #[.slice none 0 0, .slice none 0 0, .int .i64 0] 26)) := ⟨_, rfl⟩
  have hb0 : Below w.heap.size w W0 := by rw [hW0]; exact bt (alloc_below _ _) (alloc_below _ _)
  have X0 : Box W0 w.heap.size 26 #[.slice A n c, .slice C m d, .int .i64 st] := by rw [hW0]; exact (Box.new _ _ _).alloc _
  have Y0 : Box W0 (w.heap.size + 1) 26 #[.slice none 0 0, .slice none 0 0, .int .i64 0] := by rw [hW0]; simpa using Box.new (w.alloc (.cells #[.slice A n c, .slice C m d, .int .i64 st] 26)) 26 #[.slice none 0 0, .slice none 0 0, .int .i64 0]
  have HC := Lib.hid (checkCell A C n c m d st a v zs gs W0 hl hm hn hmm (h.below hb0))
  have H := Lib.hid (And.intro hl (And.intro hm (And.intro h g)))
  have HR : Hid (progOf zs gs st a v = gate (codeIf (okFlash zs gs st) (byB a && byB v)) (progL zs gs a.toNat v.toNat) gs st) := Lib.hid rfl
  have HOk : Hid (codeIf (okFlash zs gs st) (byB a && byB v) = 0 → okFlash zs gs st = true ∧ (byB a && byB v) = true) := Lib.hid (fun e => codeIf_ok e)
  generalize progOf zs gs st a v = r at HR
  generalize codeIf (okFlash zs gs st) (byB a && byB v) = cd at HC HR HOk
  have HX := Lib.hid (And.intro X0 Y0)
  have HW0 := Lib.hid hW0
  clear hl hm hn hmm h g hW0 X0 Y0
  go_enter Try.func32, Try.ntmps32
  go_wp2_with fail
  rw [← HW0.out]
  refine HC.out.mono ?_
  rintro e w2 ⟨rfl, hb2⟩
  have hb := bt hb0 hb2
  have X2 := HX.out.1.step hb2
  have Y2 := HX.out.2.step hb2
  have e0 := X2.cell 0 rfl
  have e1 := X2.cell 1 rfl
  have e2 := X2.cell 2 rfl
  have y0 := Y2.cell 0 rfl
  have y1 := Y2.cell 1 rfl
  have y2 := Y2.cell 2 rfl
  have y0z := Y2.frozen 0
  have y1z := Y2.frozen 1
  have y2z := Y2.frozen 2
  have HY2 := Lib.hid Y2
  clear X2 Y2 HX HW0 HC hb0 hb2
  by_cases hz : cd = 0
  · subst hz
    obtain ⟨hok, hab⟩ := HOk.out rfl
    have q := okFlash_len hok
    obtain rfl : n = 256 := by have := H.out.1; omega
    obtain rfl : m = 16 := by have := H.out.2.1; omega
    obtain ⟨hka, hva⟩ : byB a = true ∧ byB v = true := by simpa using hab
    obtain ⟨k, rfl⟩ : ∃ k : Nat, a = k := ⟨a.toNat, by have := byB_range hka; omega⟩
    obtain ⟨u, rfl⟩ : ∃ u : Nat, v = u := ⟨v.toNat, by have := byB_range hva; omega⟩
    have hk : k < 256 := by have := byB_range hka; omega
    have hu : u < 256 := by have := byB_range hva; omega
    have hwr := wrap8 (u : Int) (by omega) (by omega)
    have hmd : (u : Int) % 256 = u := by omega
    clear hka hva
    have HP := Lib.hid (chipOf A C 256 c 16 d st zs gs w2 H.out.1 H.out.2.1 rfl rfl q.2.2.2 (H.out.2.2.1.below hb) (H.out.2.2.2.below hb))
    have HQ := Lib.hid (fun W => chipProgram k u zs gs st W q.1 q.2.1 hk hu q.2.2.2)
    have HF := Lib.hid (fun W => chipFlash (progL zs gs k u) (gs) st W (by rw [progL_len]; exact q.1) (by exact q.2.1) (progL_range q.2.2.2 hu))
    have HR2 : Hid (r = (progL zs gs k u, gs, st, 0)) := Lib.hid (by rw [HR.out]; rfl)
    have HQ2 : Hid (∀ W, Calls Try.prog 69 #[.agg (chipC zs gs st).toArray, .int .i64 k, .int .u8 u] W fun e w' => e = .returned (.agg (chipC (progL zs gs k u) (gs) st).toArray) ∧ Below W.heap.size W w') := HQ
    have HP2 : Hid (Calls Try.prog 43 #[.agg #[.slice A 256 c, .slice C 16 d, .int .i64 st]] w2 fun e w' => e = .returned (.agg (chipC zs gs st).toArray) ∧ Below w2.heap.size w2 w') := HP
    clear HP HQ
    generalize chipC zs gs st = ca at HP2 HQ2
    generalize chipC (progL zs gs k u) (gs) st = cb at HQ2 HF
    generalize progL zs gs k u = zr at HR2 HF
    generalize gs = gr at HR2 HF
    clear q hok hab H HR HOk
    go_wp2_with fail
    refine HP2.out.mono ?_
    rintro e w3 ⟨rfl, hb3⟩
    go_wp2_with fail
    refine (HQ2.out w3).mono ?_
    rintro e w4 ⟨rfl, hb4⟩
    go_wp2_with fail
    refine (HF.out w4).mono ?_
    rintro e w5 ⟨A5, n5, c5, C5, m5, d5, rfl, L5, M5, S5, R5, hb5⟩
    have hk := bt (bt hb3 hb4) hb5
    have Y5 := HY2.out.step hk
    have s0 := Y5.cell 0 rfl
    have s1 := Y5.cell 1 rfl
    have s2 := Y5.cell 2 rfl
    have s0z := Y5.frozen 0
    have s1z := Y5.frozen 1
    have s2z := Y5.frozen 2
    have HY5 := Lib.hid Y5
    have HSz : Hid (w.heap.size ≤ w4.heap.size) := Lib.hid (bt hb (bt hb3 hb4)).size
    have hbz := bt hb hk
    clear Y5 e0 e1 e2 y0 y1 y2 y0z y1z y2z HP2 HQ2 HF hb3 hb4 hb5 hk hb
    go_wp2
    refine bodyPost_ret (v := .tuple #[.agg #[.slice A5 n5 c5, .slice C5 m5 d5, .int .i64 st], .int .i64 0]) (by simp [results, Try.results32, go_sem, s0, s1, s2]) rfl ?_
    rw [HR2.out]
    exact ⟨_, _, _, _, _, _, rfl, L5, M5, Lib.hid ((S5.out.far3 HY5.out _ _ _).wideB HSz.out (by rw [size3]; exact Nat.le_refl _)), Lib.hid ((R5.out.far3 HY5.out _ _ _).wide HSz.out (by rw [size3]; exact Nat.le_refl _)), below3 hbz (by omega) _ _ _⟩
  · have hcb : (cd != 0) = true := by simp [hz]
    have HR2 : Hid (r = ([], [], 0, cd)) := Lib.hid (by rw [HR.out]; unfold gate; rw [if_neg hz])
    clear hz HR HOk H
    go_wp2
    refine bodyPost_ret (v := .tuple #[.agg #[.slice none 0 0, .slice none 0 0, .int .i64 0], .int .i64 cd]) (by simp [results, Try.results32, go_sem, y0, y1, y2]) rfl ?_
    rw [HR2.out]
    exact ⟨_, _, _, _, _, _, rfl, Lib.hid rfl, Lib.hid rfl, Lib.hid (.inl rfl), Lib.hid (.inl rfl), below3 hb (by omega) _ _ _⟩
end Go.Proofs.Ytapopagphoiemaa
