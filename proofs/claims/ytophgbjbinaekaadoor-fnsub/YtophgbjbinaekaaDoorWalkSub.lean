/- The law FnSub, walked. Written by gen_walksub.py. -/
import Derived.Test.YtophgbjbinaekaaDoorM12
namespace Go.Proofs.YtophgbjbinaekaaDoor
open Go.RowKit

theorem OwnC.step {w w' : World} {lo hi : Nat} {A : Option Addr} {c : Nat} {d : CD} (h : OwnC w lo hi A c d) (k : Below w.heap.size w w') : OwnC w' lo hi A c d := ⟨h.1, h.2.below k⟩
theorem OwnM.step {w w' : World} {lo hi : Nat} {A0 A1 A2 A3 : Option Addr} {c0 c1 c2 c3 : Nat} {m : MD} (h : OwnM w lo hi A0 A1 A2 A3 c0 c1 c2 c3 m) (k : Below w.heap.size w w') : OwnM w' lo hi A0 A1 A2 A3 c0 c1 c2 c3 m := ⟨h.1, h.2.below k⟩
theorem OwnC.btw {w w' : World} {lo hi l r : Nat} {A : Option Addr} {c : Nat} {d : CD} (h : OwnC w lo hi A c d) (k : Btw l r w w') (q : hi ≤ l ∨ r ≤ lo) : OwnC w' lo hi A c d := ⟨h.1, h.2.btw k q⟩
def subIt (k c : Nat) : Nat → CD × MD
  | 0 => (newCD, subMD k c)
  | j + 1 => (stepD (subIt k c j).1 (subIt k c j).2, stepM (subIt k c j).1 (subIt k c j).2)
theorem subIt_end {k c : Nat} (hk : k < 200) (hc : c < 4) : (subIt (10 + k) c 3).1.pc = 515 ∧ (subIt (10 + k) c 3).1.sp = 255 ∧ (subIt (10 + k) c 3).1.regs.getD (4 * (subIt (10 + k) c 3).1.bank + c).toNat 0 = 1 := by
  have := sub_end hk hc
  unfold subEnd at this
  simp only [Bool.and_eq_true, decide_eq_true_eq] at this
  exact this
def CpuB (W : World) (b : Nat) (A : Option Addr) (c : Nat) (d : CD) : Prop := Box W b 25 #[.int .i64 d.pc, .int .i64 d.sp, .int .i64 d.bank, .int .i64 d.level, .bool d.zero, .bool d.carry, .bool d.on, .bool d.halt, .slice A 16 c]
def MemB (W : World) (b : Nat) (A0 A1 A2 A3 : Option Addr) (c0 c1 c2 c3 : Nat) (m : MD) : Prop := Box W b 32 #[.slice A0 256 c0, .slice A1 32 c1, .slice A2 256 c2, .slice A3 16 c3, .int .i64 m.s]

set_option maxRecDepth 100000 in
set_option maxHeartbeats 16000000 in
theorem walkSub (A : Option Addr) (n c : Nat) (zs : List Nat) (A' : Option Addr) (n' c' : Nat) (zs' : List Nat) (w : World) (hl : zs.length = n) (hn : n ≤ maxLen) (h : ByB w w.heap.size A zs) (hl' : zs'.length = n') (hn' : n' ≤ maxLen) (h' : ByB w w.heap.size A' zs') (ht : OpsT w) :
    Calls Tryd.prog 3 #[.slice A n c, .slice A' n' c'] w fun e w' => e = .returned (.bool true) ∧ Below w.heap.size w w' := by
  unfold maxLen at hn hn'
  by_cases hle : 1048576 < n
  · have i1 : (1048576 : Int) < (n : Int) := by omega
    clear hle
    go_enter Tryd.func3, Tryd.ntmps3
    go_wp2
    go_ret
    exact ⟨rfl, Below.refl _ _⟩
  have i1 : ¬ (1048576 : Int) < (n : Int) := by omega
  by_cases hle' : 1048576 < n'
  · have i2 : (1048576 : Int) < (n' : Int) := by omega
    clear hle'
    go_enter Tryd.func3, Tryd.ntmps3
    go_wp2
    go_ret
    exact ⟨rfl, Below.refl _ _⟩
  have i2 : ¬ (1048576 : Int) < (n' : Int) := by omega
  have HA0 : Hid (∀ W, Below w.heap.size w W → Calls Tryd.prog 6 #[.slice A' n' c', .int .i64 0, .int .i64 200] W fun e w' => e = .returned (.int .i64 (atOf zs' 0 200 : Nat)) ∧ Below W.heap.size W w') := Lib.hid (fun W hb => lawAtE 0 200 A' n' c' zs' W (by omega) (by omega) (by omega) (by omega) hl' (h'.step hb))
  have HA1 : Hid (∀ W, Below w.heap.size w W → Calls Tryd.prog 6 #[.slice A n c, .int .i64 0, .int .i64 4] W fun e w' => e = .returned (.int .i64 (atOf zs 0 4 : Nat)) ∧ Below W.heap.size W w') := Lib.hid (fun W hb => lawAtE 0 4 A n c zs W (by omega) (by omega) (by omega) (by omega) hl (h.step hb))
  have hK := atOf_lt zs' 0 200 (by omega)
  have hR := atOf_lt zs 0 4 (by omega)
  generalize atOf zs' 0 200 = K at HA0 hK
  generalize atOf zs 0 4 = r at HA1 hR
  have HN := Lib.hid (And.intro hK hR)
  have HTb := Lib.hid ht
  clear hl hl' hn hn' h h' hle hle' hK hR ht
  go_enter Tryd.func3, Tryd.ntmps3
  go_wp2_with fail
  refine (newCpuS w).mono ?_
  rintro e w1 ⟨Ac, cc, rfl, OC1, hb1⟩
  obtain ⟨W2, hW2⟩ : ∃ W2, W2 = w1.alloc (.cells #[.int .i64 newCD.pc, .int .i64 newCD.sp, .int .i64 newCD.bank, .int .i64 newCD.level, .bool newCD.zero, .bool newCD.carry, .bool newCD.on, .bool newCD.halt, .slice Ac 16 cc] 25) := ⟨_, rfl⟩
  have k2 : Below w1.heap.size w1 W2 := by rw [hW2]; exact alloc_below _ _
  have XC2 : Hid (Box W2 w1.heap.size 25 #[.int .i64 newCD.pc, .int .i64 newCD.sp, .int .i64 newCD.bank, .int .i64 newCD.level, .bool newCD.zero, .bool newCD.carry, .bool newCD.on, .bool newCD.halt, .slice Ac 16 cc]) := Lib.hid (by rw [hW2]; exact Box.new _ _ _)
  have OC2 := Lib.hid (OC1.out.step k2)
  have hb2 := bt hb1 k2
  have Z1 := Lib.hid hb1.size
  clear OC1 hb1 k2
  go_wp2_with fail
  rw [← hW2]
  clear hW2
  obtain ⟨D5, hD5⟩ : ∃ D5, D5 = w1.heap.size := ⟨_, rfl⟩
  rw [← hD5] at XC2 OC2 Z1 ⊢
  clear hD5
  refine (HA0.out _ hb2).mono ?_
  rintro e w3 ⟨rfl, k3⟩
  have XC3 := Lib.hid (XC2.out.step k3)
  have OC3 := Lib.hid (OC2.out.step k3)
  have hb3 := bt hb2 k3
  clear XC2 OC2 hb2 k3 HA0
  have e1 : IntKind.i64.wrap (10 + (K : Int)) = ((10 + K : Nat) : Int) := by rw [IntWalk.i64_in _ (by have := HN.out; omega)]; simp
  obtain ⟨kk, hkk⟩ : ∃ kk, kk = 10 + K := ⟨_, rfl⟩
  rw [← hkk] at e1
  have HKK := Lib.hid hkk
  clear hkk
  obtain ⟨W4, hW4⟩ : ∃ W4, W4 = w3.alloc (.cells #[.int .i64 144, .int .i64 (kk : Int), .int .i64 2] 3) := ⟨_, rfl⟩
  have k4 : Below w3.heap.size w3 W4 := by rw [hW4]; exact alloc_below _ _
  have XR : Box W4 w3.heap.size 3 #[.int .i64 144, .int .i64 (kk : Int), .int .i64 2] := by rw [hW4]; exact Box.new _ _ _
  have HL : IntL W4 (some ⟨w3.heap.size, 0, none⟩) [144, (kk : Int), 2] := fun i hi => by
    have : i = 0 ∨ i = 1 ∨ i = 2 := by simp at hi; omega
    rcases this with rfl | rfl | rfl
    · exact ⟨_, 0, rfl, XR.cell 0 rfl⟩
    · exact ⟨_, 0, rfl, XR.cell 1 rfl⟩
    · exact ⟨_, 0, rfl, XR.cell 2 rfl⟩
  have HNM := Lib.hid (newMemS [144, (kk : Int), 2] (some ⟨w3.heap.size, 0, none⟩) 3 3 W4 rfl (by omega) (by have := HN.out; have := HKK.out; simp; omega) HL)
  have XC4 := Lib.hid (XC3.out.step k4)
  have OC4 := Lib.hid (OC3.out.step k4)
  have hb4 := bt hb3 k4
  have Z4 : Hid (D5 < W4.heap.size) := Lib.hid XC4.out.lt
  clear XR HL XC3 OC3 hb3 k4
  go_wp2_with fail
  rw [← hW4]
  clear hW4 e1
  refine HNM.out.mono ?_
  rintro e w5 ⟨A0, A1, A2, A3, c0, c1, c2, c3, rfl, OM5, k5⟩
  obtain ⟨W6, hW6⟩ : ∃ W6, W6 = w5.alloc (.cells #[.slice A0 256 c0, .slice A1 32 c1, .slice A2 256 c2, .slice A3 16 c3, .int .i64 0] 32) := ⟨_, rfl⟩
  have k6 : Below w5.heap.size w5 W6 := by rw [hW6]; exact alloc_below _ _
  have XM6 : Hid (Box W6 w5.heap.size 32 #[.slice A0 256 c0, .slice A1 32 c1, .slice A2 256 c2, .slice A3 16 c3, .int .i64 0]) := Lib.hid (by rw [hW6]; exact Box.new _ _ _)
  have OM6 := Lib.hid (OM5.out.step k6)
  have XC6 := Lib.hid (XC4.out.step (bt k5 k6))
  have OC6 := Lib.hid (OC4.out.step (bt k5 k6))
  have hb6 := bt hb4 (bt k5 k6)
  have Z6 := Lib.hid (And.intro Z4.out k5.size)
  clear OM5 XC4 OC4 hb4 k5 k6 HNM Z4
  have f0 := XC6.out.cell 0 rfl; have f1 := XC6.out.cell 1 rfl; have f2 := XC6.out.cell 2 rfl; have f3 := XC6.out.cell 3 rfl; have f4 := XC6.out.cell 4 rfl; have f5 := XC6.out.cell 5 rfl; have f6 := XC6.out.cell 6 rfl; have f7 := XC6.out.cell 7 rfl; have f8 := XC6.out.cell 8 rfl
  rw [hW6] at f0 f1 f2 f3 f4 f5 f6 f7 f8
  go_wp2_with fail
  rw [← hW6]
  clear hW6 f0 f1 f2 f3 f4 f5 f6 f7 f8
  refine (cpuOkS cc OC6.out.rep).mono ?_
  rintro e w7 ⟨rfl, k7⟩
  have XM7 := Lib.hid (XM6.out.step k7)
  have OM7 := Lib.hid (OM6.out.step k7)
  have XC7 := Lib.hid (XC6.out.step k7)
  have OC7 := Lib.hid (OC6.out.step k7)
  have hb7 := bt hb6 k7
  clear XM6 OM6 XC6 OC6 hb6 k7
  obtain ⟨D7, hD7⟩ : ∃ D7, D7 = w5.heap.size := ⟨_, rfl⟩
  rw [← hD7] at XM7 OM7 Z6 ⊢
  clear hD7
  obtain ⟨b2, e2, -, -, q1, q2, -⟩ := OM7.out.put kk (by have := HN.out; have := HKK.out; omega)
  subst e2
  have HKc := Lib.hid (fun W' (hb : Below w7.heap.size w7 W') => (OM7.out.step hb).spot kk (by have := HN.out; have := HKK.out; omega))
  have s2 := XM7.out.cell 2 rfl
  have HK := Lib.hid (fun W' (hb : Below w7.heap.size w7 W') => (show W'.cell? ⟨D7, 2, none⟩ = some (.slice (some ⟨b2, 0, none⟩) 256 c2) from (hb.cell (cell_lt s2)).trans s2))
  have HB := Lib.hid (fun W' (hb : Btw b2 (b2 + 1) w7 W') => (show W'.cell? ⟨D7, 2, none⟩ = some (.slice (some ⟨b2, 0, none⟩) 256 c2) from hb.cell s2 (.inr q2)))
  have Z7 := Lib.hid (And.intro q1 q2)
  have h6 : Below w7.heap.size w7 w7.drew := (Below.refl _ _).drew
  have e1 : IntKind.i64.wrap (64 + (r : Int)) = 64 + (r : Int) := IntWalk.i64_in _ (by have := HN.out; omega)
  have i5 : (kk : Int) < 256 := by have := HN.out; have := HKK.out; omega
  have i6 : (0 : Int) ≤ (kk : Int) := by omega
  clear q1 q2
  go_wp2_with fail
  clear s2
  go_region_held3 (fun W => W.cell? ⟨D7, 2, none⟩ = some (.slice (some ⟨b2, 0, none⟩) 256 c2))
    (first | with_reducible exact HK.out _ h6 | with_reducible exact HK.out _ (bt h6 hc8) | with_reducible exact HB.out _ ((Btw.of_below (bt h6 hc8) _ _).put))
    (first | (go_at_call 6; refine (HA1.out _ (bt hb7 h6)).mono ?_; rintro e w8 ⟨rfl, hc8⟩; obtain ⟨⟨v0, g0⟩, g1⟩ := HKc.out _ (bt h6 hc8)))
  have OM8 := OM7.out.step (bt h6 hc8)
  have hb8 := bt hb7 (bt h6 hc8)
  have XM8 := Lib.hid (XM7.out.step (bt h6 hc8))
  have XC8 := Lib.hid (XC7.out.step (bt h6 hc8))
  have OC8 := Lib.hid (OC7.out.step (bt h6 hc8))
  obtain ⟨bb, e2, -, -, q1, q2, hput⟩ := OM8.put kk (by have := HN.out; have := HKK.out; omega)
  injection e2 with e2
  injection e2 with e2 _ _
  subst e2
  obtain ⟨W9, hW9⟩ : ∃ W9, W9 = w8.setCell ⟨b2, kk, none⟩ (.int .i64 (64 + (r : Int))) := ⟨_, rfl⟩
  have B9 : Btw b2 (b2 + 1) w8 W9 := by rw [hW9]; exact (Btw.refl _ _ _).put
  have OM9 := Lib.hid (hput (64 + (r : Int)) (by have := HN.out; omega))
  rw [← hW9] at OM9
  have XM9 := Lib.hid (XM8.out.btw B9 (.inr q2))
  have XC9 := Lib.hid (XC8.out.btw B9 (.inl (by have := Z6.out; omega)))
  have OC9 := Lib.hid (OC8.out.btw B9 (.inl (by have := Z6.out; omega)))
  have hb9 : Below w.heap.size w W9 := by rw [hW9]; exact hb8.setCell (by show w.heap.size ≤ b2; have := Z1.out; have := Z6.out; omega) _
  obtain ⟨bb, e2, -, -, -, -, hput⟩ := OM9.out.put (kk + 1) (by have := HN.out; have := HKK.out; omega)
  injection e2 with e2
  injection e2 with e2 _ _
  subst e2
  obtain ⟨⟨v1, hc1⟩, hz1⟩ := OM9.out.spot (kk + 1) (by have := HN.out; have := HKK.out; omega)
  have s2 := XM9.out.cell 2 rfl
  have e3 : IntKind.i64.wrap ((kk : Int) + 1) = ((kk + 1 : Nat) : Int) := by rw [IntWalk.i64_in _ (by omega)]; simp
  have i7 : ((kk + 1 : Nat) : Int) < 256 := by have := HN.out; have := HKK.out; omega
  have i8 : (0 : Int) ≤ ((kk + 1 : Nat) : Int) := by omega
  obtain ⟨W10, hW10⟩ : ∃ W10, W10 = W9.setCell ⟨b2, kk + 1, none⟩ (.int .i64 152) := ⟨_, rfl⟩
  have B10 : Btw b2 (b2 + 1) W9 W10 := by rw [hW10]; exact (Btw.refl _ _ _).put
  have OM10 := Lib.hid (hput 152 (by omega))
  rw [← hW10] at OM10
  have XM10 := Lib.hid (XM9.out.btw B10 (.inr q2))
  have XC10 := Lib.hid (XC9.out.btw B10 (.inl (by have := Z6.out; omega)))
  have OC10 := Lib.hid (OC9.out.btw B10 (.inl (by have := Z6.out; omega)))
  have hb10 : Below w.heap.size w W10 := by rw [hW10]; exact hb9.setCell (by show w.heap.size ≤ b2; have := Z1.out; have := Z6.out; omega) _
  rw [← hW9]
  have HW10 := Lib.hid hW10
  clear OM7 XM7 XC7 OC7 hb7 OM8 hb8 XM8 XC8 OC8 hput B9 B10 XM9 XC9 OC9 hb9 OM9 h6 hc8 g0 g1 hW9 hW10 HKc HK HB e1
  go_wp2
  rw [← HW10.out]
  clear HW10 s2 e3 hc1 hz1 i5 i6 i7 i8
  have HI0 : Hid (∃ d m A c A0 A1 A2 A3 c0 c1 c2 c3, subIt (10 + K) r 0 = (d, m) ∧ CpuB W10 D5 A c d ∧ MemB W10 D7 A0 A1 A2 A3 c0 c1 c2 c3 m ∧ RepC W10 A d ∧ RepM W10 A0 A1 A2 A3 m) :=
    Lib.hid ⟨_, _, _, _, _, _, _, _, _, _, _, _, rfl, XC10.out, XM10.out, OC10.out.rep, by have := OM10.out.rep; have hk := HKK.out; subst hk; exact this⟩
  have HB10 := Lib.hid hb10
  have HNE : Hid (D5 < D7 ∧ w.heap.size ≤ D5) := Lib.hid (by have := Z6.out; have := Z1.out; omega)
  clear OM10 XM10 XC10 OC10 hb10 HKK Z1 Z6 Z7
  go_loopw [9] (fun i wr => ∃ j : Nat, j ≤ 3 ∧ i = .int .i64 (j : Int) ∧ Hid (∃ d m A c A0 A1 A2 A3 c0 c1 c2 c3, subIt (10 + K) r j = (d, m) ∧ CpuB wr D5 A c d ∧ MemB wr D7 A0 A1 A2 A3 c0 c1 c2 c3 m ∧ RepC wr A d ∧ RepM wr A0 A1 A2 A3 m) ∧ Hid (Below w.heap.size w wr)) (fun i _ => 3 - (intOf i).toNat)
  case atStart => exact ⟨0, by omega, rfl, HI0, HB10⟩
  case round =>
    clear HI0 HB10
    obtain ⟨j, hj, rfl, HI, HB⟩ := hrel
    by_cases hlt : j < 3
    · obtain ⟨d, m, A, c, A0, A1, A2, A3, c0, c1, c2, c3, he, XC, XM, RC, RM⟩ := HI.out
      have hjl : (j : Int) < 3 := by omega
      have HS := Lib.hid (stepO c c0 c1 c2 c3 RC RM (HTb.out.below HB.out))
      have HE : Hid (subIt (10 + K) r (j + 1) = (stepD d m, stepM d m)) := Lib.hid (by show (stepD (subIt (10 + K) r j).1 (subIt (10 + K) r j).2, stepM (subIt (10 + K) r j).1 (subIt (10 + K) r j).2) = _; rw [he])
      have HXC := Lib.hid XC
      have HXM := Lib.hid XM
      clear HI he XC XM RC RM
      unfold CpuB at HXC
      unfold MemB at HXM
      unfold StpO at HS

      have f0 := HXC.out.cell 0 rfl; have f1 := HXC.out.cell 1 rfl; have f2 := HXC.out.cell 2 rfl; have f3 := HXC.out.cell 3 rfl; have f4 := HXC.out.cell 4 rfl; have f5 := HXC.out.cell 5 rfl; have f6 := HXC.out.cell 6 rfl; have f7 := HXC.out.cell 7 rfl; have f8 := HXC.out.cell 8 rfl
      have g0 := HXM.out.cell 0 rfl; have g1 := HXM.out.cell 1 rfl; have g2 := HXM.out.cell 2 rfl; have g3 := HXM.out.cell 3 rfl; have g4 := HXM.out.cell 4 rfl
      go_wp2_with fail
      refine HS.out.mono ?_
      rintro e w2 ⟨B, B0, B1, B2, B3, e, e0, e1, e2, e3, rfl, HR, hc2⟩
      clear HS f0 f1 f2 f3 f4 f5 f6 f7 f8 g0 g1 g2 g3 g4
      generalize stepD d m = d' at HE HR ⊢
      generalize stepM d m = m' at HE HR ⊢
      generalize stepN d m = nn
      generalize stepS d m = ss
      have XC3 := Lib.hid (HXC.out.step hc2)
      have XM3 := Lib.hid (HXM.out.step hc2)
      have HR3 := HR
      have HB3 := Lib.hid (bt HB.out hc2)
      have hne : ¬ D5 = D7 := by have := HNE.out; omega
      have hne' : ¬ D7 = D5 := by have := HNE.out; omega
      have hz5 : D5 < w2.heap.size := XC3.out.lt
      have hz7 : D7 < w2.heap.size := XM3.out.lt
      have m1 : ¬ D5 = w2.heap.size := by omega
      have m2 : ¬ D5 = w2.heap.size + 1 := by omega
      have m3 : ¬ D7 = w2.heap.size := by omega
      have m4 : ¬ D7 = w2.heap.size + 1 := by omega
      have m5 : ¬ w2.heap.size = D5 := by omega
      have m6 : ¬ w2.heap.size + 1 = D5 := by omega
      have m7 : ¬ w2.heap.size = D7 := by omega
      have m8 : ¬ w2.heap.size + 1 = D7 := by omega
      clear HXC HXM HR HB hc2
      have f0 := XC3.out.cell 0 rfl; have f1 := XC3.out.cell 1 rfl; have f2 := XC3.out.cell 2 rfl; have f3 := XC3.out.cell 3 rfl; have f4 := XC3.out.cell 4 rfl; have f5 := XC3.out.cell 5 rfl; have f6 := XC3.out.cell 6 rfl; have f7 := XC3.out.cell 7 rfl; have f8 := XC3.out.cell 8 rfl; have fz0 := XC3.out.frozen 0; have fz1 := XC3.out.frozen 1; have fz2 := XC3.out.frozen 2; have fz3 := XC3.out.frozen 3; have fz4 := XC3.out.frozen 4; have fz5 := XC3.out.frozen 5; have fz6 := XC3.out.frozen 6; have fz7 := XC3.out.frozen 7; have fz8 := XC3.out.frozen 8
      have g0 := XM3.out.cell 0 rfl; have g1 := XM3.out.cell 1 rfl; have g2 := XM3.out.cell 2 rfl; have g3 := XM3.out.cell 3 rfl; have g4 := XM3.out.cell 4 rfl; have gz0 := XM3.out.frozen 0; have gz1 := XM3.out.frozen 1; have gz2 := XM3.out.frozen 2; have gz3 := XM3.out.frozen 3; have gz4 := XM3.out.frozen 4
      go_wp2
      clear f0 f1 f2 f3 f4 f5 f6 f7 f8 fz0 fz1 fz2 fz3 fz4 fz5 fz6 fz7 fz8 g0 g1 g2 g3 g4 gz0 gz1 gz2 gz3 gz4 m1 m2 m3 m4 m5 m6 m7 m8 hz5 hz7
      obtain ⟨W4, hW4⟩ : ∃ W4, W4 = (((((((((w2.setCell ⟨D5, 0, none⟩ (.int .i64 d'.pc)).setCell ⟨D5, 1, none⟩ (.int .i64 d'.sp)).setCell ⟨D5, 2, none⟩ (.int .i64 d'.bank)).setCell ⟨D5, 3, none⟩ (.int .i64 d'.level)).setCell ⟨D5, 4, none⟩ (.bool d'.zero)).setCell ⟨D5, 5, none⟩ (.bool d'.carry)).setCell ⟨D5, 6, none⟩ (.bool d'.on)).setCell ⟨D5, 7, none⟩ (.bool d'.halt)).setCell ⟨D5, 8, none⟩ (.slice B 16 e)) := ⟨_, rfl⟩
      have B4 : Btw D5 (D5 + 1) w2 W4 := by rw [hW4]; exact (Btw.refl _ _ _).put.put.put.put.put.put.put.put.put
      have XC4 : Hid (Box W4 D5 25 #[.int .i64 d'.pc, .int .i64 d'.sp, .int .i64 d'.bank, .int .i64 d'.level, .bool d'.zero, .bool d'.carry, .bool d'.on, .bool d'.halt, .slice B 16 e]) := Lib.hid (by rw [hW4]; exact (XC3.out.allN9 rfl _ _ _ _ _ _ _ _ _))
      have XM4 := Lib.hid (XM3.out.btw B4 (.inr (by have := HNE.out; omega)))
      have HR4 := Lib.hid (And.intro (HR3.out.1.off XC3.out (by simp) B4) (HR3.out.2.off XC3.out (by simp) B4))
      have HB4 := Lib.hid (HB3.out.trans ((B4.below (Nat.le_of_lt XC3.out.lt)).mono HNE.out.2))
      rw [← hW4]
      clear hW4 B4 XC3 XM3 HR3 HB3
      obtain ⟨W5, hW5⟩ : ∃ W5, W5 = (((((W4.setCell ⟨D7, 0, none⟩ (.slice B0 256 e0)).setCell ⟨D7, 1, none⟩ (.slice B1 32 e1)).setCell ⟨D7, 2, none⟩ (.slice B2 256 e2)).setCell ⟨D7, 3, none⟩ (.slice B3 16 e3)).setCell ⟨D7, 4, none⟩ (.int .i64 m'.s)) := ⟨_, rfl⟩
      have B5 : Btw D7 (D7 + 1) W4 W5 := by rw [hW5]; exact (Btw.refl _ _ _).put.put.put.put.put
      have XM5 : Hid (Box W5 D7 32 #[.slice B0 256 e0, .slice B1 32 e1, .slice B2 256 e2, .slice B3 16 e3, .int .i64 m'.s]) := Lib.hid (by rw [hW5]; exact (XM4.out.allN5 rfl _ _ _ _ _))
      have XC5 := Lib.hid (XC4.out.btw B5 (.inl (by have := HNE.out; omega)))
      have HR5 := Lib.hid (And.intro (HR4.out.1.off XM4.out (by simp) B5) (HR4.out.2.off XM4.out (by simp) B5))
      have HB5 := Lib.hid (HB4.out.trans ((B5.below (Nat.le_of_lt XM4.out.lt)).mono (by have := HNE.out; omega)))
      rw [← hW5]
      clear hW5 B5 XC4 XM4 HR4 HB4
      have HF := Lib.hid (fun o1 o2 => bt (alloc_below W5 o1) (alloc_below (W5.alloc o1) o2))
      go_roundw
      case rel => exact ⟨j + 1, by omega, by go_num, Lib.hid ⟨d', m', _, _, _, _, _, _, _, _, _, _, HE.out, XC5.out.step (HF.out _ _), XM5.out.step (HF.out _ _), HR5.out.1.below (HF.out _ _), HR5.out.2.below (HF.out _ _)⟩, Lib.hid (bt HB5.out (HF.out _ _))⟩
      case measure => simp [intOf]; omega
    · obtain rfl : j = 3 := by omega
      obtain ⟨d, m, A, c, A0, A1, A2, A3, c0, c1, c2, c3, he, XC, -, RC, -⟩ := HI.out
      obtain ⟨p1, p2, p3⟩ := subIt_end HN.out.1 HN.out.2
      rw [he] at p1 p2 p3
      simp only at p1 p2 p3
      have HX := Lib.hid XC
      have HRg := Lib.hid (fun W (h : RepC W A d) => regAtS c r HN.out.2 h)
      rw [p3] at HRg
      have HRC := Lib.hid RC
      have HP := Lib.hid (And.intro p1 p2)
      clear HI he XC RC p1 p2 p3 hlt hj
      unfold CpuB at HX
      have f0 := HX.out.cell 0 rfl; have f1 := HX.out.cell 1 rfl; have f2 := HX.out.cell 2 rfl; have f3 := HX.out.cell 3 rfl; have f4 := HX.out.cell 4 rfl; have f5 := HX.out.cell 5 rfl; have f6 := HX.out.cell 6 rfl; have f7 := HX.out.cell 7 rfl; have f8 := HX.out.cell 8 rfl
      have HK := Lib.hid (fun W (hb : Below wr.heap.size wr W) => (show W.cell? ⟨D5, 0, none⟩ = some (.int .i64 d.pc) ∧ W.cell? ⟨D5, 1, none⟩ = some (.int .i64 d.sp) ∧ W.cell? ⟨D5, 2, none⟩ = some (.int .i64 d.bank) ∧ W.cell? ⟨D5, 3, none⟩ = some (.int .i64 d.level) ∧ W.cell? ⟨D5, 4, none⟩ = some (.bool d.zero) ∧ W.cell? ⟨D5, 5, none⟩ = some (.bool d.carry) ∧ W.cell? ⟨D5, 6, none⟩ = some (.bool d.on) ∧ W.cell? ⟨D5, 7, none⟩ = some (.bool d.halt) ∧ W.cell? ⟨D5, 8, none⟩ = some (.slice A 16 c) from And.intro ((hb.cell (cell_lt f0)).trans f0) (And.intro ((hb.cell (cell_lt f1)).trans f1) (And.intro ((hb.cell (cell_lt f2)).trans f2) (And.intro ((hb.cell (cell_lt f3)).trans f3) (And.intro ((hb.cell (cell_lt f4)).trans f4) (And.intro ((hb.cell (cell_lt f5)).trans f5) (And.intro ((hb.cell (cell_lt f6)).trans f6) (And.intro ((hb.cell (cell_lt f7)).trans f7) ((hb.cell (cell_lt f8)).trans f8))))))))))
      have h6 : Below wr.heap.size wr wr.drew := (Below.refl _ _).drew
      go_wp2_with fail
      go_region_held3 (fun W => W.cell? ⟨D5, 0, none⟩ = some (.int .i64 d.pc) ∧ W.cell? ⟨D5, 1, none⟩ = some (.int .i64 d.sp) ∧ W.cell? ⟨D5, 2, none⟩ = some (.int .i64 d.bank) ∧ W.cell? ⟨D5, 3, none⟩ = some (.int .i64 d.level) ∧ W.cell? ⟨D5, 4, none⟩ = some (.bool d.zero) ∧ W.cell? ⟨D5, 5, none⟩ = some (.bool d.carry) ∧ W.cell? ⟨D5, 6, none⟩ = some (.bool d.on) ∧ W.cell? ⟨D5, 7, none⟩ = some (.bool d.halt) ∧ W.cell? ⟨D5, 8, none⟩ = some (.slice A 16 c))
        (exact HK.out _ h6)
        (first | (go_at_call 6; refine (HA1.out _ (bt HB.out h6)).mono ?_; rintro e w4 ⟨rfl, hc4⟩; replace h6 := bt h6 hc4; clear hc4) | (go_at_call 10; refine (HRg.out _ (HRC.out.below h6)).mono ?_; rintro e w5 ⟨rfl, hc5⟩; replace h6 := bt h6 hc5; clear hc5))
      have X2 := Lib.hid (HX.out.step h6)
      have hbf := bt HB.out h6
      clear f0 f1 f2 f3 f4 f5 f6 f7 f8 HK
      have f0 := X2.out.cell 0 rfl
      have f1 := X2.out.cell 1 rfl
      have y1 : (d.pc == 515) = true := by simp [HP.out.1]
      have y2 : (d.sp == 255) = true := by simp [HP.out.2]
      go_wp2
      go_ret
      exact ⟨rfl, hbf⟩
end Go.Proofs.YtophgbjbinaekaaDoor
