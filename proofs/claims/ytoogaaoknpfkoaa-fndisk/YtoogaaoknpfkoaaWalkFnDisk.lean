/- laws.FnDisk: the walk. -/
import Derived.Test.YtoogaaoknpfkoaaPure
import Derived.Test.YtoogaaoknpfkoaaSameDisk
import Derived.Deep.RegionHeld3
import Derived.Deep.DeepCutAuto
import Derived.Deep.DeepFit
namespace Go.Proofs.Ytoogaaoknpfkoaa.fnDisk
open Go.RowKit

theorem fits {ss : List ByteArray} {ws : List (Int × ByteArray)} (h : Ok ss ws) : FitS ss ∧ FitW ws :=
  ⟨fun s hs => Nat.le_trans (h.small s hs) (by unfold maxLen; omega), fun x hx => Nat.le_trans (h.smallW x hx) (by unfold maxLen; omega)⟩

/-- Slot z points to a variable that holds this disk, slot q holds 0. -/
def HasDisk (w0 : World) (ss : List ByteArray) (z q : Value) (wx : World) : Prop :=
  ∃ bz lo hi A n c C m d, z = .pointer (some ⟨bz, 0, none⟩) ∧ q = .int .i64 0 ∧ Hid (ss.length = n) ∧ Hid (([] : List (Int × ByteArray)).length = m) ∧ Hid (BD wx bz lo hi A n c C m d ss []) ∧ Below w0.heap.size w0 wx
theorem below_set2 {w0 w : World} {b : Nat} (h : Below w0.heap.size w0 w) (hb : w0.heap.size ≤ b) (u v : Value) : Below w0.heap.size w0 ((w.setCell ⟨b, 0, none⟩ u).setCell ⟨b, 1, none⟩ v) := (h.setCell (p := ⟨b, 0, none⟩) hb u).setCell (p := ⟨b, 1, none⟩) hb v
theorem bd_store {w : World} {b lo hi : Nat} {A : Option Addr} {n c : Nat} {C : Option Addr} {m d : Nat} {ss : List ByteArray} {ws : List (Int × ByteArray)} {u v : Value} (X : Box w b 26 #[u, v]) (S : OwnS w lo hi A ss) (R : OwnW w lo hi C ws) : BD ((w.setCell ⟨b, 0, none⟩ (.slice A n c)).setCell ⟨b, 1, none⟩ (.slice C m d)) b lo hi A n c C m d ss ws := by
  have x1 := X.set 0 (.slice A n c)
  exact ⟨x1.set 1 (.slice C m d), (S.far X 0 _).far x1 1 _, (R.far X 0 _).far x1 1 _⟩

set_option maxRecDepth 100000 in
set_option maxHeartbeats 4000000 in
theorem walk (A : Option Addr) (n c : Nat) (zs : List Nat) (B : Option Addr) (n' c' : Nat) (ys : List Nat) (w : World) (hl : zs.length = n) (hn : n ≤ maxLen) (h : ByB w w.heap.size A zs) (hl' : ys.length = n') (hn' : n' ≤ maxLen) (h' : ByB w w.heap.size B ys) :
    Calls Try.prog 3 #[.slice A n c, .slice B n' c'] w fun e w' => e = .returned (.bool true) ∧ Below w.heap.size w w' := by
  by_cases hbig : (1048576 : Int) < (n : Int)
  · clear h h' hl hl'
    go_enter Try.func3, Try.ntmps3
    go_wp2
    go_ret
    exact ⟨rfl, Below.refl _ _⟩
  by_cases hbig' : (1048576 : Int) < (n' : Int)
  · clear h h' hl hl'
    go_enter Try.func3, Try.ntmps3
    go_wp2
    go_ret
    exact ⟨rfl, Below.refl _ _⟩
  have HFc := Lib.hid (fun W (hb : Below w.heap.size w W) => fatesOf A n c zs W hn hl (h.step hb))
  have HFm := Lib.hid (fun W (hb : Below w.heap.size w W) => fatesOf B n' c' ys W hn' hl' (h'.step hb))
  have HAt := Lib.hid (fun i N W (hb : Below w.heap.size w W) hi hN hN2 => lawAt i N B n' c' ys W hi hN hN2 (by omega) hl' (h'.step hb))
  have HTx := Lib.hid (fun N W (hb : Below w.heap.size w W) hN => textOf N B n' c' ys W hN hn' hl' (h'.step hb))
  have HDk := Lib.hid (diskOf A n c zs w hn hl h)
  clear hl hl' h h' hn hn'
  go_enter Try.func3, Try.ntmps3
  go_wp2_with fail
  refine HDk.out.mono ?_
  rintro e w1 ⟨ss, ws, A1, n1, c1, C1, m1, d1, OK, hm8, rfl, L1, M1, S1, R1, B1⟩
  have H0 := Lib.hid B1.out
  clear HDk B1
  have hba := alloc_below w1 (.cells #[.slice A1 n1 c1, .slice C1 m1 d1] 26)
  have D1 := Lib.hid (BD.new (n := n1) (c := c1) (m := m1) (d := d1) S1.out R1.out)
  have H1 := Lib.hid (bt H0.out hba)
  clear H0 hba
  clear S1 R1
  obtain ⟨b1, hbn1⟩ : ∃ b, b = w1.heap.size := ⟨_, rfl⟩
  rw [← hbn1] at D1
  go_wp2_with fail
  generalize hw2 : w1.alloc (.cells #[.slice A1 n1 c1, .slice C1 m1 d1] 26) = w2 at D1 H1 ⊢
  rw [← hbn1]
  clear hw2 hbn1 w1
  refine (HAt.out 0 48 w2 H1.out (by omega) (by omega) (by omega)).mono ?_
  rintro e w3 ⟨k, rfl, hk, hb3⟩
  have F2 := Lib.hid (D1.out.step hb3)
  have H3 := Lib.hid (bt H1.out hb3)
  clear D1 H1 hb3
  go_wp2_with fail
  refine (HAt.out 1 9 w3 H3.out (by omega) (by omega) (by omega)).mono ?_
  rintro e w4 ⟨l, rfl, hl9, hb4⟩
  have F4 := Lib.hid (F2.out.step hb4)
  have H5 := Lib.hid (bt H3.out hb4)
  clear F2 H3 hb4
  go_wp2_with fail
  refine (HTx.out l w4 H5.out (by omega)).mono ?_
  rintro e w5 ⟨t, rfl, ht, hb5⟩
  have F6 := Lib.hid (F4.out.step hb5)
  have H7 := Lib.hid (bt H5.out hb5)
  clear F4 H5 hb5
  obtain ⟨W, fl, q1, q2, q3, q4, q5, q6, q7, q8, q9, q10, q11⟩ := disk_facts OK.out (by rw [M1.out]; exact hm8) (a := (k : Int)) (t := t) (by omega) (by omega) (by omega)
  have Q1 := Lib.hid q1
  have Q2 := Lib.hid q2
  have Q4 := Lib.hid q4
  have Q5 := Lib.hid q5
  have Q6 := Lib.hid q6
  have Q7 := Lib.hid q7
  have Q8 := Lib.hid q8
  have Q9 := Lib.hid q9
  have Q10 := Lib.hid q10
  have Q11 := Lib.hid q11
  have HN1 : Hid (n1 = 48) := Lib.hid (by have := L1.out; have := OK.out.n48; omega)
  clear q1 q2 q4 q5 q6 q7 q8 q9 q10 q11
  have HWr : Hid (Calls Try.prog 23 #[.agg #[.slice A1 n1 c1, .slice C1 m1 d1], .int .i64 (k : Int), .string t] w5 (GivesDiskCode ss W 0 w5)) := Lib.hid (by
    have := implWrite A1 C1 n1 c1 m1 d1 ss ws (k : Int) t w5 L1.out M1.out (by have := HN1.out; unfold maxLen; omega) (by unfold maxLen; omega) F6.out.s.reads F6.out.r.reads (fits OK.out).1 (fits OK.out).2 (by unfold maxLen; omega)
    rw [Q1.out] at this; exact this)
  have f0 := F6.out.f0
  have f1 := F6.out.f1
  go_wp2_with fail
  refine HWr.out.mono ?_
  rintro e w6 ⟨A6, n6, c6, C6, m6, d6, rfl, L6, M6, S6, R6, hb6⟩
  clear f0 f1 HWr
  have F8 := Lib.hid (F6.out.step hb6)
  have H9 := Lib.hid (bt H7.out hb6)
  clear F6 H7 hb6
  have B6 : Hid (n6 = 48 ∧ m6 ≤ 9) := Lib.hid ⟨by have := L6.out; have := Q2.out.n48; omega, by have := M6.out; omega⟩
  have hba := alloc_below w6 (.cells #[.slice A6 n6 c6, .slice C6 m6 d6] 26)
  have D6 := Lib.hid (BD.new (n := n6) (c := c6) (m := m6) (d := d6) S6.out R6.out)
  have F10 := Lib.hid (F8.out.step hba)
  have H11 := Lib.hid (bt H9.out hba)
  clear F8 H9 hba
  clear S6 R6
  obtain ⟨b6, hbn6⟩ : ∃ b, b = w6.heap.size := ⟨_, rfl⟩
  rw [← hbn6] at D6
  have HRd : Hid (∀ W0, StrL W0 A6 ss → WrL W0 C6 W → Calls Try.prog 24 #[.agg #[.slice A6 n6 c6, .slice C6 m6 d6], .int .i64 (k : Int)] W0 fun e w' => e = .returned (.tuple #[.string t, .int .i64 0]) ∧ Below W0.heap.size W0 w') := Lib.hid (fun W0 g1 g2 => by
    have := implRead A6 C6 n6 c6 m6 d6 ss W (k : Int) W0 L6.out M6.out (by have := B6.out; unfold maxLen; omega) (by have := B6.out; unfold maxLen; omega) g1 g2 (fits Q2.out).1 (fits Q2.out).2
    rw [Q4.out] at this; exact this)
  go_wp2_with fail
  generalize hw7 : w6.alloc (.cells #[.slice A6 n6 c6, .slice C6 m6 d6] 26) = w7 at F10 D6 H11 ⊢
  rw [← hbn6]
  clear hw7 hbn6 w6
  refine (HRd.out w7 D6.out.s.reads D6.out.r.reads).mono ?_
  rintro e w8 ⟨rfl, hb8⟩
  clear HRd
  have F12 := Lib.hid (F10.out.step hb8)
  have F13 := Lib.hid (D6.out.step hb8)
  have H14 := Lib.hid (bt H11.out hb8)
  clear F10 D6 H11 hb8
  have HFl : Hid (Calls Try.prog 25 #[.agg #[.slice A6 n6 c6, .slice C6 m6 d6]] w8 (GivesDiskCode fl [] 0 w8)) := Lib.hid (by
    have := implFlush A6 C6 n6 c6 m6 d6 ss W w8 L6.out M6.out (by have := B6.out; unfold maxLen; omega) (by have := B6.out; unfold maxLen; omega) F13.out.s.reads F13.out.r.reads (fits Q2.out).1 (fits Q2.out).2
    rw [Q5.out, Q6.out] at this; exact this)
  have f0 := F13.out.f0
  have f1 := F13.out.f1
  go_wp2_with fail
  refine HFl.out.mono ?_
  rintro e w9 ⟨A9, n9, c9, C9, m9, d9, rfl, L9, M9, S9, R9, hb9⟩
  clear f0 f1 HFl
  have F15 := Lib.hid (F12.out.step hb9)
  have F16 := Lib.hid (F13.out.step hb9)
  have H17 := Lib.hid (bt H14.out hb9)
  clear F12 F13 H14 hb9
  have B9 : Hid (n9 = 48 ∧ m9 = 0) := Lib.hid ⟨by have := L9.out; have := Q7.out.n48; omega, M9.out.symm⟩
  have hba := alloc_below w9 (.cells #[.slice A9 n9 c9, .slice C9 m9 d9] 26)
  have D9 := Lib.hid (BD.new (n := n9) (c := c9) (m := m9) (d := d9) S9.out R9.out)
  have F18 := Lib.hid (F15.out.step hba)
  have F19 := Lib.hid (F16.out.step hba)
  have H20 := Lib.hid (bt H17.out hba)
  clear F15 F16 H17 hba
  clear S9 R9
  obtain ⟨b9, hbn9⟩ : ∃ b, b = w9.heap.size := ⟨_, rfl⟩
  rw [← hbn9] at D9
  go_wp2
  generalize hw10 : w9.alloc (.cells #[.slice A9 n9 c9, .slice C9 m9 d9] 26) = w10 at F18 F19 D9 H20 ⊢
  rw [← hbn9]
  clear hw10 hbn9 w9
  have HCY : Hid (∀ W' F nf cf, (fatesX ys 0 (n' % 1000)).length = nf → IntL W' F (fatesX ys 0 (n' % 1000)) → StrL W' A9 fl → WrL W' C9 [] → Calls Try.prog 26 #[.agg #[.slice A9 n9 c9, .slice C9 m9 d9], .slice F nf cf] W' (GivesDiskCode fl [] 0 W')) := Lib.hid (fun W' F nf cf g0 g1 g2 g3 => by
    have q := Q9.out _ (fatesX_in ys 0 (n' % 1000)) (fatesX_len ys 0 (n' % 1000))
    have := implCrash A9 C9 F n9 c9 m9 d9 nf cf fl [] _ W' L9.out M9.out (by have := B9.out; unfold maxLen; omega) (by have := B9.out; unfold maxLen; omega) g2 g3 (fits Q7.out).1 (fits Q7.out).2 g0 (by have := fatesX_len ys 0 (n' % 1000); unfold maxLen; omega) g1
    rw [q.1, q.2.1] at this; exact this)
  have HK : Hid (∀ W', Below w10.heap.size w10 W' → W'.cell? ⟨b9, 0, none⟩ = some (.slice A9 n9 c9) ∧ W'.cell? ⟨b9, 1, none⟩ = some (.slice C9 m9 d9)) := Lib.hid (fun W' hb => ⟨(D9.out.step hb).f0, (D9.out.step hb).f1⟩)
  have HR : Hid (∀ W', Below w10.heap.size w10 W' → StrL W' A9 fl ∧ WrL W' C9 []) := Lib.hid (fun W' hb => ⟨(D9.out.step hb).s.reads, (D9.out.step hb).r.reads⟩)
  have h6 : Below w10.heap.size w10 w10.drew := (Below.refl _ _).drew
  have h7 : Below w10.heap.size w10 (w10.alloc (.cells #[.slice none 0 0, .slice none 0 0] 26)).drew := (alloc_below w10 _).drew
  go_cut [14, 15] (fun z q wx => HasDisk w10 fl z q wx)
  case first =>
    go_region_held3 (fun W' => W'.cell? ⟨b9, 0, none⟩ = some (.slice A9 n9 c9) ∧ W'.cell? ⟨b9, 1, none⟩ = some (.slice C9 m9 d9))
      (first | exact HK.out _ h6 | exact HK.out _ h7 | exact HK.out _ ka | exact HK.out _ (bt ka (alloc_below _ _)) | exact HK.out _ kb | exact HK.out _ (bt kb (alloc_below _ _)) | exact HK.out _ (below_set2 kb (Nat.le_refl _) _ _) | exact HK.out _ (below_set2 kb ka.size _ _))
      (first
        | (go_at_call 26; go_fit (HCY.out (wa.alloc (.cells #[.slice none 0 0, .slice none 0 0] 26)) F nf cf LF.out (IF.out.below (alloc_below _ _)) (HR.out _ (bt ka (alloc_below _ _))).1 (HR.out _ (bt ka (alloc_below _ _))).2); rintro e wb ⟨Az, nz, cz, Cz, mz, dz, rfl, Lz, Mz, Sz, Rz, hbb⟩; have kb := bt (bt ka (alloc_below _ _)) hbb; have zb := Lib.hid ((Box.new wa 26 #[.slice none 0 0, .slice none 0 0]).step hbb); have y0 := zb.out.cell 0 rfl; have y1 := zb.out.cell 1 rfl; have y2 := zb.out.frozen 0; have y3 := zb.out.frozen 1)
        | (go_at_call 26; go_fit (HCY.out wa F nf cf LF.out IF.out (HR.out _ ka).1 (HR.out _ ka).2); rintro e wb ⟨Az, nz, cz, Cz, mz, dz, rfl, Lz, Mz, Sz, Rz, hbb⟩; have kb := bt ka hbb; first | (have zb := Lib.hid (za.out.step hbb); have y0 := zb.out.cell 0 rfl; have y1 := zb.out.cell 1 rfl; have y2 := zb.out.frozen 0; have y3 := zb.out.frozen 1) | skip)
        | (go_at_call 27; go_fit (HFm.out w10.drew (bt H20.out h6)); rintro e wa ⟨F, nf, cf, rfl, LF, IF, RF⟩; have ka := bt h6 RF.out)
        | (go_at_call 27; go_fit (HFm.out (w10.alloc (.cells #[.slice none 0 0, .slice none 0 0] 26)).drew (bt H20.out h7)); rintro e wa ⟨F, nf, cf, rfl, LF, IF, RF⟩; have ka := bt h7 RF.out; have za := Lib.hid ((Box.new w10 26 #[.slice none 0 0, .slice none 0 0]).drew.step RF.out)))
    all_goals (go_wp2_with fail; go_meet)
    all_goals (first | exact ⟨_, _, _, _, _, _, _, _, _, rfl, rfl, Lz, Mz, Lib.hid (bd_store zb.out Sz.out Rz.out), below_set2 kb (Nat.le_refl _) _ _⟩ | exact ⟨_, _, _, _, _, _, _, _, _, rfl, rfl, Lz, Mz, Lib.hid (bd_store zb.out Sz.out Rz.out), below_set2 kb ka.size _ _⟩ | exact ⟨_, _, _, _, _, _, _, _, _, rfl, rfl, Lz, Mz, Lib.hid (BD.new Sz.out Rz.out), bt kb (alloc_below _ _)⟩)
  case rest =>
    obtain ⟨b11, lo11, hi11, A11, n11, c11, C11, m11, d11, rfl, rfl, L11, M11, D11, hbz⟩ := hcut
    obtain ⟨w11, hwx⟩ : ∃ W', W' = wc := ⟨_, rfl⟩
    rw [← hwx] at D11 hbz ⊢
    clear hwx wc HK HR h6 h7 HCY
    have F21 := Lib.hid (F18.out.step hbz)
    have F22 := Lib.hid (F19.out.step hbz)
    have F23 := Lib.hid (D9.out.step hbz)
    have H24 := Lib.hid (bt H20.out hbz)
    clear F18 F19 D9 H20 hbz
    have B11 : Hid (n11 = 48 ∧ m11 = 0) := Lib.hid ⟨by have := L11.out; have := Q7.out.n48; omega, M11.out.symm⟩
    have HRd : Hid (Calls Try.prog 24 #[.agg #[.slice A11 n11 c11, .slice C11 m11 d11], .int .i64 (k : Int)] w11 fun e w' => e = .returned (.tuple #[.string t, .int .i64 0]) ∧ Below w11.heap.size w11 w') := Lib.hid (by
      have := implRead A11 C11 n11 c11 m11 d11 fl [] (k : Int) w11 L11.out M11.out (by have := B11.out; unfold maxLen; omega) (by have := B11.out; unfold maxLen; omega) D11.out.s.reads D11.out.r.reads (fits Q7.out).1 (fits Q7.out).2
      rw [Q8.out] at this; exact this)
    have f0 := D11.out.f0
    have f1 := D11.out.f1
    go_wp2_with fail
    refine HRd.out.mono ?_
    rintro e w12 ⟨rfl, hb12⟩
    clear HRd f0 f1
    have F25 := Lib.hid (F21.out.step hb12)
    have F26 := Lib.hid (F22.out.step hb12)
    have F27 := Lib.hid (F23.out.step hb12)
    have F28 := Lib.hid (D11.out.step hb12)
    have H29 := Lib.hid (bt H24.out hb12)
    clear F21 F22 F23 D11 H24 hb12
    have HCX : Hid (∀ (xs : List Int) W' F nf cf, (∀ x ∈ xs, 0 ≤ x ∧ x ≤ 2) → xs.length ≤ 3 → xs.length = nf → IntL W' F xs → StrL W' A6 ss → WrL W' C6 W → Calls Try.prog 26 #[.agg #[.slice A6 n6 c6, .slice C6 m6 d6], .slice F nf cf] W' (GivesDiskCode (crashS ss W xs) [] 0 W')) := Lib.hid (fun xs W' F nf cf g8 g9 g0 g1 g2 g3 => by
      have q := Q9.out xs g8 g9
      have := implCrash A6 C6 F n6 c6 m6 d6 nf cf ss W xs W' L6.out M6.out (by have := B6.out; unfold maxLen; omega) (by have := B6.out; unfold maxLen; omega) g2 g3 (fits Q2.out).1 (fits Q2.out).2 g0 (by unfold maxLen; omega) g1
      rw [q.2.2.1] at this; exact this)
    have hba := alloc_below w12 (.cells #[] 3)
    have HIL : Hid (IntL (w12.alloc (.cells #[] 3)) (some ⟨w12.heap.size, 0, none⟩) []) := Lib.hid (fun i hi => ⟨_, _, rfl, by
      simp at hi⟩)
    have f0 := F26.out.f0
    have f1 := F26.out.f1
    have HXs := Lib.hid (F26.out.step hba)
    go_wp2_with fail
    refine (HCX.out [] _ _ 0 0 (fun x hx => by simp at hx; try (subst hx; omega)) (by simp) rfl HIL.out HXs.out.s.reads HXs.out.r.reads).mono ?_
    rw [Q10.out]
    rintro e w13 ⟨A13, n13, c13, C13, m13, d13, rfl, L13, M13, S13, R13, hbk⟩
    have hbq := bt hba hbk
    clear f0 f1 HIL HXs hba hbk
    have F30 := Lib.hid (F25.out.step hbq)
    have F31 := Lib.hid (F26.out.step hbq)
    have F32 := Lib.hid (F27.out.step hbq)
    have F33 := Lib.hid (F28.out.step hbq)
    have H34 := Lib.hid (bt H29.out hbq)
    clear F25 F26 F27 F28 H29 hbq
    have hba := alloc_below w13 (.cells #[.slice A13 n13 c13, .slice C13 m13 d13] 26)
    have D13 := Lib.hid (BD.new (n := n13) (c := c13) (m := m13) (d := d13) S13.out R13.out)
    have F35 := Lib.hid (F30.out.step hba)
    have F36 := Lib.hid (F31.out.step hba)
    have F37 := Lib.hid (F32.out.step hba)
    have F38 := Lib.hid (F33.out.step hba)
    have H39 := Lib.hid (bt H34.out hba)
    clear F30 F31 F32 F33 H34 hba
    clear S13 R13
    obtain ⟨b13, hbn13⟩ : ∃ b, b = w13.heap.size := ⟨_, rfl⟩
    rw [← hbn13] at D13
    obtain ⟨w14, hwn⟩ : ∃ W', W' = w13.alloc (.cells #[.slice A13 n13 c13, .slice C13 m13 d13] 26) := ⟨_, rfl⟩
    rw [← hwn] at F35 F36 F37 F38 D13 H39
    have HW14 := Lib.hid hwn
    have HBn14 := Lib.hid hbn13
    clear hwn hbn13
    have hba := alloc_below w14 (.cells #[.int .i64 1] 3)
    have HIL : Hid (IntL (w14.alloc (.cells #[.int .i64 1] 3)) (some ⟨w14.heap.size, 0, none⟩) [1]) := Lib.hid (fun i hi => ⟨_, _, rfl, by
      match i, hi with
      | 0, _ => exact (Box.new w14 3 #[.int .i64 1]).cell 0 rfl⟩)
    have f0 := F36.out.f0
    have f1 := F36.out.f1
    rw [HW14.out] at f0 f1
    have HXs := Lib.hid (F36.out.step hba)
    go_wp2_with fail
    rw [← HW14.out, ← HBn14.out]
    rw [show b13 + 1 = w14.heap.size by rw [HBn14.out, HW14.out]; simp]
    refine (HCX.out [1] _ _ 1 1 (fun x hx => by simp at hx; try (subst hx; omega)) (by simp) rfl HIL.out HXs.out.s.reads HXs.out.r.reads).mono ?_
    rw [Q11.out]
    rintro e w15 ⟨A15, n15, c15, C15, m15, d15, rfl, L15, M15, S15, R15, hbk⟩
    have hbq := bt hba hbk
    clear f0 f1 HIL HXs hba hbk
    have F40 := Lib.hid (F35.out.step hbq)
    have F41 := Lib.hid (F36.out.step hbq)
    have F42 := Lib.hid (F37.out.step hbq)
    have F43 := Lib.hid (F38.out.step hbq)
    have F44 := Lib.hid (D13.out.step hbq)
    have H45 := Lib.hid (bt H39.out hbq)
    clear F35 F36 F37 F38 D13 H39 hbq
    have hba := alloc_below w15 (.cells #[.slice A15 n15 c15, .slice C15 m15 d15] 26)
    have D15 := Lib.hid (BD.new (n := n15) (c := c15) (m := m15) (d := d15) S15.out R15.out)
    have F46 := Lib.hid (F40.out.step hba)
    have F47 := Lib.hid (F41.out.step hba)
    have F48 := Lib.hid (F42.out.step hba)
    have F49 := Lib.hid (F43.out.step hba)
    have F50 := Lib.hid (F44.out.step hba)
    have H51 := Lib.hid (bt H45.out hba)
    clear F40 F41 F42 F43 F44 H45 hba
    clear S15 R15
    obtain ⟨b15, hbn15⟩ : ∃ b, b = w15.heap.size := ⟨_, rfl⟩
    rw [← hbn15] at D15
    obtain ⟨w16, hwn⟩ : ∃ W', W' = w15.alloc (.cells #[.slice A15 n15 c15, .slice C15 m15 d15] 26) := ⟨_, rfl⟩
    rw [← hwn] at F46 F47 F48 F49 F50 D15 H51
    have HW16 := Lib.hid hwn
    have HBn16 := Lib.hid hbn15
    clear hwn hbn15
    go_wp2
    rw [← HW16.out, ← HBn16.out]
    clear HW16 HBn16 HW14 HBn14
    obtain ⟨T, hT⟩ : ∃ T, T = crashS ss W (fatesX zs 0 (n % 1000)) := ⟨_, rfl⟩
    have HT := Lib.hid hT
    clear hT
    have HC13 : Hid (∀ W' F nf cf, (fatesX zs 0 (n % 1000)).length = nf → IntL W' F (fatesX zs 0 (n % 1000)) → StrL W' A6 ss → WrL W' C6 W → Calls Try.prog 26 #[.agg #[.slice A6 n6 c6, .slice C6 m6 d6], .slice F nf cf] W' (GivesDiskCode T [] 0 W')) := Lib.hid (fun W' F nf cf g0 g1 g2 g3 => by
      have q := Q9.out _ (fatesX_in zs 0 (n % 1000)) (fatesX_len zs 0 (n % 1000))
      have := implCrash A6 C6 F n6 c6 m6 d6 nf cf ss W _ W' L6.out M6.out (by have := B6.out; unfold maxLen; omega) (by have := B6.out; unfold maxLen; omega) g2 g3 (fits Q2.out).1 (fits Q2.out).2 g0 (by have := fatesX_len zs 0 (n % 1000); unfold maxLen; omega) g1
      rw [q.2.2.1, ← HT.out] at this; exact this)
    have HC14 : Hid (∀ W' F nf cf, (fatesX zs 0 (n % 1000)).length = nf → IntL W' F (fatesX zs 0 (n % 1000)) → StrL W' A6 ss → WrL W' C6 W → Calls Try.prog 28 #[.agg #[.slice A6 n6 c6, .slice C6 m6 d6], .slice F nf cf] W' (GivesDiskCode T [] 0 W')) := Lib.hid (fun W' F nf cf g0 g1 g2 g3 => by
      have q := Q9.out _ (fatesX_in zs 0 (n % 1000)) (fatesX_len zs 0 (n % 1000))
      have := specCrash A6 C6 F n6 c6 m6 d6 nf cf ss W _ W' L6.out M6.out (by have := B6.out; unfold maxLen; omega) (by have := B6.out; unfold maxLen; omega) g2 g3 (fits Q2.out).1 (fits Q2.out).2 g0 (by have := fatesX_len zs 0 (n % 1000); unfold maxLen; omega) g1
      rw [q.2.2.1, ← HT.out] at this; exact this)
    clear HCX
    have HK : Hid (∀ W', Below w16.heap.size w16 W' → W'.cell? ⟨b6, 0, none⟩ = some (.slice A6 n6 c6) ∧ W'.cell? ⟨b6, 1, none⟩ = some (.slice C6 m6 d6)) := Lib.hid (fun W' hb => ⟨(F47.out.step hb).f0, (F47.out.step hb).f1⟩)
    have HR : Hid (∀ W', Below w16.heap.size w16 W' → StrL W' A6 ss ∧ WrL W' C6 W) := Lib.hid (fun W' hb => ⟨(F47.out.step hb).s.reads, (F47.out.step hb).r.reads⟩)
    have h6 : Below w16.heap.size w16 w16.drew := (Below.refl _ _).drew
    have h7 : Below w16.heap.size w16 (w16.alloc (.cells #[.slice none 0 0, .slice none 0 0] 26)).drew := (alloc_below w16 _).drew
    go_cut [22, 23] (fun z q wx => HasDisk w16 T z q wx)
    case first =>
      go_region_held3 (fun W' => W'.cell? ⟨b6, 0, none⟩ = some (.slice A6 n6 c6) ∧ W'.cell? ⟨b6, 1, none⟩ = some (.slice C6 m6 d6))
        (first | exact HK.out _ h6 | exact HK.out _ h7 | exact HK.out _ ka | exact HK.out _ (bt ka (alloc_below _ _)) | exact HK.out _ kb | exact HK.out _ (bt kb (alloc_below _ _)) | exact HK.out _ (below_set2 kb (Nat.le_refl _) _ _) | exact HK.out _ (below_set2 kb ka.size _ _))
        (first
          | (go_at_call 26; go_fit (HC13.out (wa.alloc (.cells #[.slice none 0 0, .slice none 0 0] 26)) F nf cf LF.out (IF.out.below (alloc_below _ _)) (HR.out _ (bt ka (alloc_below _ _))).1 (HR.out _ (bt ka (alloc_below _ _))).2); rintro e wb ⟨Az, nz, cz, Cz, mz, dz, rfl, Lz, Mz, Sz, Rz, hbb⟩; have kb := bt (bt ka (alloc_below _ _)) hbb; have zb := Lib.hid ((Box.new wa 26 #[.slice none 0 0, .slice none 0 0]).step hbb); have y0 := zb.out.cell 0 rfl; have y1 := zb.out.cell 1 rfl; have y2 := zb.out.frozen 0; have y3 := zb.out.frozen 1)
          | (go_at_call 26; go_fit (HC13.out wa F nf cf LF.out IF.out (HR.out _ ka).1 (HR.out _ ka).2); rintro e wb ⟨Az, nz, cz, Cz, mz, dz, rfl, Lz, Mz, Sz, Rz, hbb⟩; have kb := bt ka hbb; first | (have zb := Lib.hid (za.out.step hbb); have y0 := zb.out.cell 0 rfl; have y1 := zb.out.cell 1 rfl; have y2 := zb.out.frozen 0; have y3 := zb.out.frozen 1) | skip)
          | (go_at_call 27; go_fit (HFc.out w16.drew (bt H51.out h6)); rintro e wa ⟨F, nf, cf, rfl, LF, IF, RF⟩; have ka := bt h6 RF.out)
          | (go_at_call 27; go_fit (HFc.out (w16.alloc (.cells #[.slice none 0 0, .slice none 0 0] 26)).drew (bt H51.out h7)); rintro e wa ⟨F, nf, cf, rfl, LF, IF, RF⟩; have ka := bt h7 RF.out; have za := Lib.hid ((Box.new w16 26 #[.slice none 0 0, .slice none 0 0]).drew.step RF.out)))
      all_goals (go_wp2_with fail; go_meet)
      all_goals (first | exact ⟨_, _, _, _, _, _, _, _, _, rfl, rfl, Lz, Mz, Lib.hid (bd_store zb.out Sz.out Rz.out), below_set2 kb (Nat.le_refl _) _ _⟩ | exact ⟨_, _, _, _, _, _, _, _, _, rfl, rfl, Lz, Mz, Lib.hid (bd_store zb.out Sz.out Rz.out), below_set2 kb ka.size _ _⟩ | exact ⟨_, _, _, _, _, _, _, _, _, rfl, rfl, Lz, Mz, Lib.hid (BD.new Sz.out Rz.out), bt kb (alloc_below _ _)⟩)
    case rest =>
      obtain ⟨b17, lo17, hi17, A17, n17, c17, C17, m17, d17, rfl, rfl, L17, M17, D17, hbz⟩ := hcut
      obtain ⟨w17, hwx⟩ : ∃ W', W' = wc := ⟨_, rfl⟩
      rw [← hwx] at D17 hbz ⊢
      clear hwx wc HK HR h6 h7 HC13
      have F52 := Lib.hid (F46.out.step hbz)
      have F53 := Lib.hid (F47.out.step hbz)
      have F54 := Lib.hid (F48.out.step hbz)
      have F55 := Lib.hid (F49.out.step hbz)
      have F56 := Lib.hid (F50.out.step hbz)
      have F57 := Lib.hid (D15.out.step hbz)
      have H58 := Lib.hid (bt H51.out hbz)
      clear F46 F47 F48 F49 F50 D15 H51 hbz
      go_wp2
      have HK : Hid (∀ W', Below w17.heap.size w17 W' → W'.cell? ⟨b6, 0, none⟩ = some (.slice A6 n6 c6) ∧ W'.cell? ⟨b6, 1, none⟩ = some (.slice C6 m6 d6)) := Lib.hid (fun W' hb => ⟨(F53.out.step hb).f0, (F53.out.step hb).f1⟩)
      have HR : Hid (∀ W', Below w17.heap.size w17 W' → StrL W' A6 ss ∧ WrL W' C6 W) := Lib.hid (fun W' hb => ⟨(F53.out.step hb).s.reads, (F53.out.step hb).r.reads⟩)
      have h6 : Below w17.heap.size w17 w17.drew := (Below.refl _ _).drew
      have h7 : Below w17.heap.size w17 (w17.alloc (.cells #[.slice none 0 0, .slice none 0 0] 26)).drew := (alloc_below w17 _).drew
      go_cut [24, 25] (fun z q wx => HasDisk w17 T z q wx)
      case first =>
        go_region_held3 (fun W' => W'.cell? ⟨b6, 0, none⟩ = some (.slice A6 n6 c6) ∧ W'.cell? ⟨b6, 1, none⟩ = some (.slice C6 m6 d6))
          (first | exact HK.out _ h6 | exact HK.out _ h7 | exact HK.out _ ka | exact HK.out _ (bt ka (alloc_below _ _)) | exact HK.out _ kb | exact HK.out _ (bt kb (alloc_below _ _)) | exact HK.out _ (below_set2 kb (Nat.le_refl _) _ _) | exact HK.out _ (below_set2 kb ka.size _ _))
          (first
            | (go_at_call 28; go_fit (HC14.out (wa.alloc (.cells #[.slice none 0 0, .slice none 0 0] 26)) F nf cf LF.out (IF.out.below (alloc_below _ _)) (HR.out _ (bt ka (alloc_below _ _))).1 (HR.out _ (bt ka (alloc_below _ _))).2); rintro e wb ⟨Az, nz, cz, Cz, mz, dz, rfl, Lz, Mz, Sz, Rz, hbb⟩; have kb := bt (bt ka (alloc_below _ _)) hbb; have zb := Lib.hid ((Box.new wa 26 #[.slice none 0 0, .slice none 0 0]).step hbb); have y0 := zb.out.cell 0 rfl; have y1 := zb.out.cell 1 rfl; have y2 := zb.out.frozen 0; have y3 := zb.out.frozen 1)
            | (go_at_call 28; go_fit (HC14.out wa F nf cf LF.out IF.out (HR.out _ ka).1 (HR.out _ ka).2); rintro e wb ⟨Az, nz, cz, Cz, mz, dz, rfl, Lz, Mz, Sz, Rz, hbb⟩; have kb := bt ka hbb; first | (have zb := Lib.hid (za.out.step hbb); have y0 := zb.out.cell 0 rfl; have y1 := zb.out.cell 1 rfl; have y2 := zb.out.frozen 0; have y3 := zb.out.frozen 1) | skip)
            | (go_at_call 27; go_fit (HFc.out w17.drew (bt H58.out h6)); rintro e wa ⟨F, nf, cf, rfl, LF, IF, RF⟩; have ka := bt h6 RF.out)
            | (go_at_call 27; go_fit (HFc.out (w17.alloc (.cells #[.slice none 0 0, .slice none 0 0] 26)).drew (bt H58.out h7)); rintro e wa ⟨F, nf, cf, rfl, LF, IF, RF⟩; have ka := bt h7 RF.out; have za := Lib.hid ((Box.new w17 26 #[.slice none 0 0, .slice none 0 0]).drew.step RF.out)))
        all_goals (go_wp2_with fail; go_meet)
        all_goals (first | exact ⟨_, _, _, _, _, _, _, _, _, rfl, rfl, Lz, Mz, Lib.hid (bd_store zb.out Sz.out Rz.out), below_set2 kb (Nat.le_refl _) _ _⟩ | exact ⟨_, _, _, _, _, _, _, _, _, rfl, rfl, Lz, Mz, Lib.hid (bd_store zb.out Sz.out Rz.out), below_set2 kb ka.size _ _⟩ | exact ⟨_, _, _, _, _, _, _, _, _, rfl, rfl, Lz, Mz, Lib.hid (BD.new Sz.out Rz.out), bt kb (alloc_below _ _)⟩)
      case rest =>
        obtain ⟨b18, lo18, hi18, A18, n18, c18, C18, m18, d18, rfl, rfl, L18, M18, D18, hbz⟩ := hcut
        obtain ⟨w18, hwx⟩ : ∃ W', W' = wc := ⟨_, rfl⟩
        rw [← hwx] at D18 hbz ⊢
        clear hwx wc HK HR h6 h7 HC14
        have F59 := Lib.hid (F52.out.step hbz)
        have F60 := Lib.hid (F53.out.step hbz)
        have F61 := Lib.hid (F54.out.step hbz)
        have F62 := Lib.hid (F55.out.step hbz)
        have F63 := Lib.hid (F56.out.step hbz)
        have F64 := Lib.hid (F57.out.step hbz)
        have F65 := Lib.hid (D17.out.step hbz)
        have H66 := Lib.hid (bt H58.out hbz)
        clear F52 F53 F54 F55 F56 F57 D17 H58 hbz
        have hqt : (t.toList == t.toList) = true := by simp
        have HOT : Hid (Ok T []) := Lib.hid (by rw [HT.out]; exact (Q9.out _ (fatesX_in zs 0 (n % 1000)) (fatesX_len zs 0 (n % 1000))).2.2.2)
        have hm9 : (m9 : Int) = 0 := by have := B9.out; omega
        have E13 : Hid (n13 = n1) := Lib.hid (L13.out.symm.trans L1.out)
        have B15 : Hid (n15 = n9 ∧ m15 = m9) := Lib.hid ⟨L15.out.symm.trans L9.out, M15.out.symm.trans M9.out⟩
        have B17 : Hid (n17 = n18 ∧ m17 = m18 ∧ n17 = 48 ∧ m17 = 0) := Lib.hid ⟨L17.out.symm.trans L18.out, M17.out.symm.trans M18.out, L17.out.symm.trans HOT.out.n48, M17.out.symm⟩
        have f0 := F63.out.f0
        have f1 := F63.out.f1
        have f2 := F59.out.f0
        have f3 := F59.out.f1
        have f4 := F61.out.f0
        have f5 := F61.out.f1
        have HS1 : Hid (Calls Try.prog 29 #[.slice A13 n13 c13, .slice A1 n1 c1] w18 fun e w' => e = .returned (.bool true) ∧ Below w18.heap.size w18 w') := Lib.hid (by
          rw [E13.out]
          exact sameTexts A13 A1 n1 c13 c1 ss w18 L1.out (by have := HN1.out; omega) F63.out.s.reads F59.out.s.reads)
        go_wp2_with fail
        refine HS1.out.mono ?_
        rintro e w19 ⟨rfl, hb19⟩
        clear f0 f1 f2 f3 f4 f5 HS1
        have F67 := Lib.hid (F59.out.step hb19)
        have F68 := Lib.hid (F60.out.step hb19)
        have F69 := Lib.hid (F61.out.step hb19)
        have F70 := Lib.hid (F62.out.step hb19)
        have F71 := Lib.hid (F63.out.step hb19)
        have F72 := Lib.hid (F64.out.step hb19)
        have F73 := Lib.hid (F65.out.step hb19)
        have F74 := Lib.hid (D18.out.step hb19)
        have H75 := Lib.hid (bt H66.out hb19)
        clear F59 F60 F61 F62 F63 F64 F65 D18 H66 hb19
        have f0 := F72.out.f0
        have f1 := F72.out.f1
        have f2 := F69.out.f0
        have f3 := F69.out.f1
        have HS2 : Hid (Calls Try.prog 30 #[.agg #[.slice A15 n15 c15, .slice C15 m15 d15], .agg #[.slice A9 n9 c9, .slice C9 m9 d9]] w19 fun e w' => e = .returned (.bool true) ∧ Below w19.heap.size w19 w') := Lib.hid (by
          rw [B15.out.1, B15.out.2]
          exact sameDiskT A15 A9 C15 C9 n9 c15 c9 m9 d15 d9 fl [] w19 L9.out M9.out (by have := B9.out; omega) (by have := B9.out; omega) F72.out.s.reads F69.out.s.reads F72.out.r.reads F69.out.r.reads)
        go_wp2_with fail
        refine HS2.out.mono ?_
        rintro e w20 ⟨rfl, hb20⟩
        clear f0 f1 f2 f3 HS2
        have F76 := Lib.hid (F67.out.step hb20)
        have F77 := Lib.hid (F68.out.step hb20)
        have F78 := Lib.hid (F69.out.step hb20)
        have F79 := Lib.hid (F70.out.step hb20)
        have F80 := Lib.hid (F71.out.step hb20)
        have F81 := Lib.hid (F72.out.step hb20)
        have F82 := Lib.hid (F73.out.step hb20)
        have F83 := Lib.hid (F74.out.step hb20)
        have H84 := Lib.hid (bt H75.out hb20)
        clear F67 F68 F69 F70 F71 F72 F73 F74 H75 hb20
        have f0 := F82.out.f0
        have f1 := F82.out.f1
        have f2 := F83.out.f0
        have f3 := F83.out.f1
        have HS3 : Hid (Calls Try.prog 30 #[.agg #[.slice A17 n17 c17, .slice C17 m17 d17], .agg #[.slice A18 n18 c18, .slice C18 m18 d18]] w20 fun e w' => e = .returned (.bool true) ∧ Below w20.heap.size w20 w') := Lib.hid (by
          rw [B17.out.1, B17.out.2.1]
          exact sameDiskT A17 A18 C17 C18 n18 c17 c18 m18 d17 d18 T [] w20 L18.out M18.out (by have := B17.out; omega) (by have := B17.out; omega) F82.out.s.reads F83.out.s.reads F82.out.r.reads F83.out.r.reads)
        go_wp2_with fail
        refine HS3.out.mono ?_
        rintro e w21 ⟨rfl, hb21⟩
        clear f0 f1 f2 f3 HS3
        have F85 := Lib.hid (F76.out.step hb21)
        have F86 := Lib.hid (F77.out.step hb21)
        have F87 := Lib.hid (F78.out.step hb21)
        have F88 := Lib.hid (F79.out.step hb21)
        have F89 := Lib.hid (F80.out.step hb21)
        have F90 := Lib.hid (F81.out.step hb21)
        have F91 := Lib.hid (F82.out.step hb21)
        have F92 := Lib.hid (F83.out.step hb21)
        have H93 := Lib.hid (bt H84.out hb21)
        clear F76 F77 F78 F79 F80 F81 F82 F83 H84 hb21
        have f0 := F91.out.f0
        have f1 := F91.out.f1
        have HS4 : Hid (Calls Try.prog 31 #[.agg #[.slice A17 n17 c17, .slice C17 m17 d17]] w21 fun e w' => e = .returned (.bool true) ∧ Below w21.heap.size w21 w') := Lib.hid (by
          have := implDiskOK A17 C17 n17 c17 m17 d17 T [] w21 L17.out M17.out (by have := B17.out; unfold maxLen; omega) (by have := B17.out; unfold maxLen; omega) F91.out.s.reads F91.out.r.reads (fits HOT.out).1 (fits HOT.out).2
          rw [ok_to HOT.out] at this; exact this)
        go_wp2_with fail
        refine HS4.out.mono ?_
        rintro e w22 ⟨rfl, hb22⟩
        clear f0 f1 HS4
        have F94 := Lib.hid (F85.out.step hb22)
        have F95 := Lib.hid (F86.out.step hb22)
        have F96 := Lib.hid (F87.out.step hb22)
        have F97 := Lib.hid (F88.out.step hb22)
        have F98 := Lib.hid (F89.out.step hb22)
        have F99 := Lib.hid (F90.out.step hb22)
        have F100 := Lib.hid (F91.out.step hb22)
        have F101 := Lib.hid (F92.out.step hb22)
        have H102 := Lib.hid (bt H93.out hb22)
        clear F85 F86 F87 F88 F89 F90 F91 F92 H93 hb22
        have f0 := F99.out.f0
        have f1 := F99.out.f1
        have f2 := F96.out.f0
        have f3 := F96.out.f1
        have HS5 : Hid (Calls Try.prog 32 #[.agg #[.slice A15 n15 c15, .slice C15 m15 d15], .agg #[.slice A9 n9 c9, .slice C9 m9 d9]] w22 fun e w' => e = .returned (.bool true) ∧ Below w22.heap.size w22 w') := Lib.hid (by
          have q9 := B9.out; have q15 := B15.out
          have := implSame A15 A9 C15 C9 n15 n9 m15 m9 c15 c9 d15 d9 fl fl [] [] w22 L15.out L9.out M15.out M9.out (by unfold maxLen; omega) (by unfold maxLen; omega) (by unfold maxLen; omega) (by unfold maxLen; omega) F99.out.s.reads F96.out.s.reads F99.out.r.reads F96.out.r.reads
          simpa using this)
        go_wp2_with fail
        refine HS5.out.mono ?_
        rintro e w23 ⟨rfl, hb23⟩
        clear f0 f1 f2 f3 HS5
        have F103 := Lib.hid (F94.out.step hb23)
        have F104 := Lib.hid (F95.out.step hb23)
        have F105 := Lib.hid (F96.out.step hb23)
        have F106 := Lib.hid (F97.out.step hb23)
        have F107 := Lib.hid (F98.out.step hb23)
        have F108 := Lib.hid (F99.out.step hb23)
        have F109 := Lib.hid (F100.out.step hb23)
        have F110 := Lib.hid (F101.out.step hb23)
        have H111 := Lib.hid (bt H102.out hb23)
        clear F94 F95 F96 F97 F98 F99 F100 F101 H102 hb23
        go_wp2
        go_ret
        exact ⟨rfl, H111.out⟩
end Go.Proofs.Ytoogaaoknpfkoaa.fnDisk
