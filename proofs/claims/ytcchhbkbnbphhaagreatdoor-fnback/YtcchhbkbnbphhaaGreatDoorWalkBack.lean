/- The law FnBack, walked. Written by gen_walkback.py. -/
import Derived.Test.YtcchhbkbnbphhaaGreatDoorM13
import Derived.Test.YtcchhbkbnbphhaaGreatDoorDrawCpu
import Derived.Test.YtcchhbkbnbphhaaGreatDoorDrawCoded
import Derived.Test.YtcchhbkbnbphhaaGreatDoorM5
namespace Go.Proofs.YtcchhbkbnbphhaaGreatDoor
open Go.RowKit

set_option maxRecDepth 100000 in
set_option maxHeartbeats 16000000 in
theorem walkBack (A : Option Addr) (n c : Nat) (zs : List Nat) (A' : Option Addr) (n' c' : Nat) (zs' : List Nat) (w : World) (hl : zs.length = n) (hn : n ≤ maxLen) (h : ByB w w.heap.size A zs) (hl' : zs'.length = n') (hn' : n' ≤ maxLen) (h' : ByB w w.heap.size A' zs') (ht : OpsT w) :
    Calls Tryz.prog 4 #[.slice A n c, .slice A' n' c'] w fun e w' => e = .returned (.bool true) ∧ Below w.heap.size w w' := by
  have HN1 := Lib.hid hn
  have HN2 := Lib.hid hn'
  unfold maxLen at hn hn'
  by_cases hle : 1048576 < n
  · have i1 : (1048576 : Int) < (n : Int) := by omega
    clear hle
    go_enter Tryz.func4, Tryz.ntmps4
    go_wp2
    go_ret
    exact ⟨rfl, Below.refl _ _⟩
  have i1 : ¬ (1048576 : Int) < (n : Int) := by omega
  by_cases hle' : 1048576 < n'
  · have i2 : (1048576 : Int) < (n' : Int) := by omega
    clear hle'
    go_enter Tryz.func4, Tryz.ntmps4
    go_wp2
    go_ret
    exact ⟨rfl, Below.refl _ _⟩
  have i2 : ¬ (1048576 : Int) < (n' : Int) := by omega
  have HA0 : Hid (∀ W, Below w.heap.size w W → Calls Tryz.prog 13 #[.slice A' n' c', .int .i64 0, .int .i64 8] W fun e w' => e = .returned (.int .i64 (atOf zs' 0 8 : Nat)) ∧ Below W.heap.size W w') := Lib.hid (fun W hb => lawAtE 0 8 A' n' c' zs' W (by omega) (by omega) (by omega) (by omega) hl' (h'.step hb))
  have HA1 : Hid (∀ W, Below w.heap.size w W → Calls Tryz.prog 13 #[.slice A' n' c', .int .i64 1, .int .i64 7] W fun e w' => e = .returned (.int .i64 (atOf zs' 1 7 : Nat)) ∧ Below W.heap.size W w') := Lib.hid (fun W hb => lawAtE 1 7 A' n' c' zs' W (by omega) (by omega) (by omega) (by omega) hl' (h'.step hb))
  have hK := atOf_lt zs' 0 8 (by omega)
  have hL := atOf_lt zs' 1 7 (by omega)
  generalize atOf zs' 0 8 = K at HA0 hK
  generalize atOf zs' 1 7 = L at HA1 hL
  have HTb := Lib.hid ht
  have HCd := Lib.hid (cpuDrawn A n c zs w HN1.out hl h)
  have HMd := Lib.hid (fun W (hb : Below w.heap.size w W) => codedMem A' n' c' zs' W HN2.out hl' (h'.step hb))
  have e1 : IntKind.i64.wrap (1 + (L : Int)) = ((1 + L : Nat) : Int) := by rw [IntWalk.i64_in _ (by omega)]; simp
  have e2 : IntKind.i64.wrap (4 * (K : Int)) = 4 * (K : Int) := IntWalk.i64_in _ (by omega)
  have e3 : IntKind.i64.wrap (192 + 4 * (K : Int)) = ((192 + 4 * K : Nat) : Int) := by rw [IntWalk.i64_in _ (by omega)]; simp
  have e4 : IntKind.i64.wrap (704 + 4 * (K : Int)) = 704 + 4 * (K : Int) := IntWalk.i64_in _ (by omega)
  obtain ⟨lv, hlv⟩ : ∃ lv, lv = 1 + L := ⟨_, rfl⟩
  obtain ⟨kk, hkk⟩ : ∃ kk, kk = 192 + 4 * K := ⟨_, rfl⟩
  rw [← hlv] at e1
  rw [← hkk] at e3
  have HN : Hid (K < 8 ∧ (1 ≤ lv ∧ lv ≤ 7) ∧ kk = 192 + 4 * K) := Lib.hid (by omega)
  have i5 : (kk : Int) < 256 := by omega
  have i6 : (0 : Int) ≤ (kk : Int) := by omega
  clear hl hl' hn hn' h h' hle hle' hK hL ht HN1 HN2 hlv hkk
  go_enter Tryz.func4, Tryz.ntmps4
  go_wp2_with fail
  refine HCd.out.mono ?_
  rintro e w1 ⟨d0, Ac, cc, rfl, RC1, hb1⟩
  obtain ⟨d, hd⟩ : ∃ d : CD, d = { d0 with halt := false } := ⟨_, rfl⟩
  have f7 : (w1.alloc (.cells #[.int .i64 d0.pc, .int .i64 d0.sp, .int .i64 d0.bank, .int .i64 d0.level, .bool d0.zero, .bool d0.carry, .bool d0.on, .bool d0.halt, .slice Ac 16 cc] 25)).cell? ⟨w1.heap.size, 7, none⟩ = some (.bool d0.halt) := (Box.new _ _ _).cell 7 rfl
  have fz7 : (w1.alloc (.cells #[.int .i64 d0.pc, .int .i64 d0.sp, .int .i64 d0.bank, .int .i64 d0.level, .bool d0.zero, .bool d0.carry, .bool d0.on, .bool d0.halt, .slice Ac 16 cc] 25)).frozen? ⟨w1.heap.size, 7, none⟩ = false := (Box.new _ _ _).frozen 7
  obtain ⟨W3, hW3⟩ : ∃ W3, W3 = w1.alloc (.cells #[.int .i64 d0.pc, .int .i64 d0.sp, .int .i64 d0.bank, .int .i64 d0.level, .bool d0.zero, .bool d0.carry, .bool d0.on, .bool false, .slice Ac 16 cc] 25) := ⟨_, rfl⟩
  have k3 : Below w1.heap.size w1 W3 := by rw [hW3]; exact alloc_below _ _
  have XC3 : Hid (Box W3 w1.heap.size 25 #[.int .i64 d.pc, .int .i64 d.sp, .int .i64 d.bank, .int .i64 d.level, .bool d.zero, .bool d.carry, .bool d.on, .bool d.halt, .slice Ac 16 cc]) := Lib.hid (by rw [hW3, hd]; exact Box.new _ _ _)
  have RC3 : Hid (RepC W3 Ac d) := Lib.hid (by have q := RC1.out.below k3; rw [hd]; exact ⟨⟨q.1.pc, q.1.sp, q.1.bank, q.1.level, q.1.len, q.1.regs⟩, q.2⟩)
  have hb3 := bt hb1 k3
  have Z1 := Lib.hid hb1.size
  have HH : Hid (d.halt = false) := Lib.hid (by rw [hd])
  clear RC1 hb1 k3 HCd hd
  go_wp2_with fail
  have hmarkA := True.intro
  rw [← hW3]
  clear f7 fz7 hW3
  obtain ⟨D5, hD5⟩ : ∃ D5, D5 = w1.heap.size := ⟨_, rfl⟩
  rw [← hD5] at XC3 Z1 ⊢
  clear hD5
  refine (HMd.out W3 hb3).mono ?_
  rintro e w3 ⟨r', i', zr, gr, A0, A1, A2, A3, c0, c1, c2, c3, hok, rfl, OA, k3⟩
  have k3 := k3.out
  obtain ⟨m0, hm0⟩ : ∃ m0 : MD, m0 = ⟨r', i', zr, gr, 0⟩ := ⟨_, rfl⟩
  have OM3 : OwnM w3 W3.heap.size w3.heap.size A0 A1 A2 A3 c0 c1 c2 c3 m0 := by rw [hm0]; exact ⟨MD.ok_iff.1 hok.out, OA.out⟩
  have hs0 : m0.s = 0 := by rw [hm0]
  obtain ⟨W4, hW4⟩ : ∃ W4, W4 = w3.alloc (.cells #[.slice A0 256 c0, .slice A1 32 c1, .slice A2 256 c2, .slice A3 16 c3, .int .i64 0] 31) := ⟨_, rfl⟩
  have k4 : Below w3.heap.size w3 W4 := by rw [hW4]; exact alloc_below _ _
  have XM4 : Hid (Box W4 w3.heap.size 31 #[.slice A0 256 c0, .slice A1 32 c1, .slice A2 256 c2, .slice A3 16 c3, .int .i64 0]) := Lib.hid (by rw [hW4]; exact Box.new _ _ _)
  have OM4 : Hid (OwnM W4 W3.heap.size w3.heap.size A0 A1 A2 A3 c0 c1 c2 c3 m0) := Lib.hid ⟨OM3.1, OM3.2.below k4⟩
  have k4 := bt k3 k4
  have HNE : Hid (D5 < W3.heap.size ∧ w.heap.size ≤ D5 ∧ D5 < w3.heap.size) := Lib.hid ⟨XC3.out.lt, Z1.out, (XC3.out.step k3).lt⟩
  have HS0 := Lib.hid hs0
  clear hok OA k3 OM3 hm0 hs0 Z1 HMd
  go_wp2_with fail
  rw [← hW4]
  clear hW4
  obtain ⟨D6, hD6⟩ : ∃ D6, D6 = w3.heap.size := ⟨_, rfl⟩
  rw [← hD6] at XM4 OM4 HNE ⊢
  clear hD6
  refine (HA0.out _ (bt hb3 k4)).mono ?_
  rintro e w5 ⟨rfl, k5⟩
  have XM5 := Lib.hid (XM4.out.step k5)
  have OM5 : Hid (OwnM w5 W3.heap.size D6 A0 A1 A2 A3 c0 c1 c2 c3 m0) := Lib.hid ⟨OM4.out.1, OM4.out.2.below k5⟩
  have k5 := bt k4 k5
  clear XM4 OM4 k4
  go_wp2_with fail
  refine (HA1.out _ (bt hb3 k5)).mono ?_
  rintro e w6 ⟨rfl, k6⟩
  have XM6 := Lib.hid (XM5.out.step k6)
  have OM6 : Hid (OwnM w6 W3.heap.size D6 A0 A1 A2 A3 c0 c1 c2 c3 m0) := Lib.hid ⟨OM5.out.1, OM5.out.2.below k6⟩
  have k6 := bt k5 k6
  clear XM5 OM5 k5 HA0 HA1
  have hmarkB := True.intro
  obtain ⟨b2, e2', ⟨v2, hc2⟩, hz2, q1, q2, hput⟩ := OM6.out.put kk (by omega)
  subst e2'
  have ZB : Hid (W3.heap.size ≤ b2 ∧ b2 < D6) := Lib.hid ⟨q1, q2⟩
  obtain ⟨m, hm⟩ : ∃ m : MD, m = { m0 with z := m0.z.set kk 16 } := ⟨_, rfl⟩
  have HZ : Hid (m.z.getD kk 0 = 16 ∧ m.s = 0) := Lib.hid ⟨by rw [hm]; exact getD_set_same _ _ _ (by rw [OM6.out.1.z]; omega), by rw [hm]; exact HS0.out⟩
  have hOM := hput 16 (by omega)
  rw [← hm] at hOM
  obtain ⟨W7, hW7⟩ : ∃ W7, W7 = w6.setCell ⟨b2, kk, none⟩ (.int .i64 16) := ⟨_, rfl⟩
  rw [← hW7] at hOM
  have RM7 := Lib.hid hOM.rep
  have B7 : Btw b2 (b2 + 1) w6 W7 := by rw [hW7]; exact (Btw.refl _ _ _).put
  have XM7 : Hid (Box W7 D6 31 #[.slice A0 256 c0, .slice A1 32 c1, .slice (some ⟨b2, 0, none⟩) 256 c2, .slice A3 16 c3, .int .i64 m.s]) := Lib.hid (by rw [HZ.out.2]; exact XM6.out.btw B7 (.inr q2))
  have k7 : Below W3.heap.size W3 W7 := by rw [hW7]; exact k6.setCell (p := ⟨b2, kk, none⟩) q1 _
  have XC7 := Lib.hid (XC3.out.step k7)
  have RC7 := Lib.hid (RC3.out.below k7)
  have hb7 := Lib.hid (bt hb3 k7)
  have s2 := XM6.out.cell 2 rfl
  clear hput hm hOM q1 q2 B7 XC3 RC3 hb3 k6 k7 OM6 HS0

  have HW7 := Lib.hid hW7
  clear hW7
  have f0 := XC7.out.cell 0 rfl; have f1 := XC7.out.cell 1 rfl; have f2 := XC7.out.cell 2 rfl; have f3 := XC7.out.cell 3 rfl; have f4 := XC7.out.cell 4 rfl; have f5 := XC7.out.cell 5 rfl; have f6 := XC7.out.cell 6 rfl; have f7 := XC7.out.cell 7 rfl; have f8 := XC7.out.cell 8 rfl
  have g0 := XM7.out.cell 0 rfl; have g1 := XM7.out.cell 1 rfl; have g2 := XM7.out.cell 2 rfl; have g3 := XM7.out.cell 3 rfl; have g4 := XM7.out.cell 4 rfl
  rw [HW7.out] at f0 f1 f2 f3 f4 f5 f6 f7 f8 g0 g1 g2 g3 g4
  go_wp2_with fail
  rw [← HW7.out]
  have hmarkC := True.intro
  clear HW7 f0 f1 f2 f3 f4 f5 f6 f7 f8 g0 g1 g2 g3 g4 s2 hc2 hz2 XM6
  have HRm := Lib.hid RM7.out
  have HE := Lib.hid (fun W (k : Below W7.heap.size W7 W) => enter_spec cc c0 c1 c2 c3 (K : Int) (lv : Int) (by have := HN.out; omega) (by have := HN.out; omega) (RC7.out.below k) (RM7.out.below k))
  have HI := Lib.hid (enter_impl cc c0 c1 c2 c3 (K : Int) (lv : Int) (by have := HN.out; omega) (by have := HN.out; omega) RC7.out RM7.out)
  have HBk := Lib.hid (back_step (m := m) K lv RC7.out.1 HH.out RM7.out.1 HN.out.1 (by have q := HN.out.2.2; rw [← q]; exact HZ.out.1) HZ.out.2)
  have HPc : Hid ((enterD d (K : Int) (lv : Int)).pc = 704 + 4 * (K : Int) ∧ (enterD d (K : Int) (lv : Int)).level = (lv : Int)) := Lib.hid ⟨rfl, rfl⟩
  unfold EntO at HE HI
  refine HI.out.mono ?_
  rintro e w8 ⟨B, B0, B1, B2, B3, e, e0, e1', e2', e3', rfl, HR, hc8⟩
  generalize enterD d (K : Int) (lv : Int) = dX at HR HE HBk HPc ⊢
  generalize enterM d m = mX at HR HE HBk ⊢
  have HR3 := HBk
  clear HI HBk HRm
  obtain ⟨W9, hW9⟩ : ∃ W9, W9 = (w8.alloc (.cells #[.int .i64 dX.pc, .int .i64 dX.sp, .int .i64 dX.bank, .int .i64 dX.level, .bool dX.zero, .bool dX.carry, .bool dX.on, .bool dX.halt, .slice B 16 e] 25)).alloc (.cells #[.slice B0 256 e0, .slice B1 32 e1', .slice B2 256 e2', .slice B3 16 e3', .int .i64 mX.s] 31) := ⟨_, rfl⟩
  have k9 : Below w8.heap.size w8 W9 := by rw [hW9]; exact bt (alloc_below _ _) (alloc_below _ _)
  have X9 : Hid (Box W9 w8.heap.size 25 #[.int .i64 dX.pc, .int .i64 dX.sp, .int .i64 dX.bank, .int .i64 dX.level, .bool dX.zero, .bool dX.carry, .bool dX.on, .bool dX.halt, .slice B 16 e]) := Lib.hid (by rw [hW9]; exact (Box.new _ _ _).alloc _)
  have X10 : Hid (Box W9 (w8.heap.size + 1) 31 #[.slice B0 256 e0, .slice B1 32 e1', .slice B2 256 e2', .slice B3 16 e3', .int .i64 mX.s]) := Lib.hid (by rw [hW9]; simpa using Box.new (w8.alloc (.cells #[.int .i64 dX.pc, .int .i64 dX.sp, .int .i64 dX.bank, .int .i64 dX.level, .bool dX.zero, .bool dX.carry, .bool dX.on, .bool dX.halt, .slice B 16 e] 25)) 31 #[.slice B0 256 e0, .slice B1 32 e1', .slice B2 256 e2', .slice B3 16 e3', .int .i64 mX.s])
  have k79 := bt hc8 k9
  have XC9 := Lib.hid (XC7.out.step k79)
  have XM9 := Lib.hid (XM7.out.step k79)
  have RC9 := Lib.hid (RC7.out.below k79)
  have HR9 := Lib.hid (And.intro (HR.out.1.below k9) (HR.out.2.below k9))
  have hb9 := Lib.hid (bt hb7.out k79)
  clear XC7 XM7 RC7 RM7 HR k9 hc8 hb7
  have f0 := XC9.out.cell 0 rfl; have f1 := XC9.out.cell 1 rfl; have f2 := XC9.out.cell 2 rfl; have f3 := XC9.out.cell 3 rfl; have f4 := XC9.out.cell 4 rfl; have f5 := XC9.out.cell 5 rfl; have f6 := XC9.out.cell 6 rfl; have f7 := XC9.out.cell 7 rfl; have f8 := XC9.out.cell 8 rfl
  have g0 := XM9.out.cell 0 rfl; have g1 := XM9.out.cell 1 rfl; have g2 := XM9.out.cell 2 rfl; have g3 := XM9.out.cell 3 rfl; have g4 := XM9.out.cell 4 rfl
  rw [hW9] at f0 f1 f2 f3 f4 f5 f6 f7 f8 g0 g1 g2 g3 g4
  go_wp2_with fail
  rw [← hW9]
  clear hW9 f0 f1 f2 f3 f4 f5 f6 f7 f8 g0 g1 g2 g3 g4
  obtain ⟨D9, hD9⟩ : ∃ D9, D9 = w8.heap.size := ⟨_, rfl⟩
  rw [← hD9] at X9 X10 ⊢
  clear hD9
  refine (HE.out W9 k79).mono ?_
  rintro e w10 ⟨Q, Q0, Q1, Q2, Q3, q, q0, q1, q2, q3, rfl, HQ, hc10⟩
  clear HE k79 XM9
  obtain ⟨W11, hW11⟩ : ∃ W11, W11 = (w10.alloc (.cells #[.int .i64 dX.pc, .int .i64 dX.sp, .int .i64 dX.bank, .int .i64 dX.level, .bool dX.zero, .bool dX.carry, .bool dX.on, .bool dX.halt, .slice Q 16 q] 25)).alloc (.cells #[.slice Q0 256 q0, .slice Q1 32 q1, .slice Q2 256 q2, .slice Q3 16 q3, .int .i64 mX.s] 31) := ⟨_, rfl⟩
  have k11 : Below w10.heap.size w10 W11 := by rw [hW11]; exact bt (alloc_below _ _) (alloc_below _ _)
  have X12 : Hid (Box W11 w10.heap.size 25 #[.int .i64 dX.pc, .int .i64 dX.sp, .int .i64 dX.bank, .int .i64 dX.level, .bool dX.zero, .bool dX.carry, .bool dX.on, .bool dX.halt, .slice Q 16 q]) := Lib.hid (by rw [hW11]; exact (Box.new _ _ _).alloc _)
  have X13 : Hid (Box W11 (w10.heap.size + 1) 31 #[.slice Q0 256 q0, .slice Q1 32 q1, .slice Q2 256 q2, .slice Q3 16 q3, .int .i64 mX.s]) := Lib.hid (by rw [hW11]; simpa using Box.new (w10.alloc (.cells #[.int .i64 dX.pc, .int .i64 dX.sp, .int .i64 dX.bank, .int .i64 dX.level, .bool dX.zero, .bool dX.carry, .bool dX.on, .bool dX.halt, .slice Q 16 q] 25)) 31 #[.slice Q0 256 q0, .slice Q1 32 q1, .slice Q2 256 q2, .slice Q3 16 q3, .int .i64 mX.s])
  have ka := bt hc10 k11
  have X9b := Lib.hid (X9.out.step ka)
  have X10b := Lib.hid (X10.out.step ka)
  have XCb := Lib.hid (XC9.out.step ka)
  have RCb := Lib.hid (RC9.out.below ka)
  have HRb := Lib.hid (And.intro (HR9.out.1.below ka) (HR9.out.2.below ka))
  have HQb := Lib.hid (And.intro (HQ.out.1.below k11) (HQ.out.2.below k11))
  have hbb := Lib.hid (bt hb9.out ka)
  clear X9 X10 XC9 RC9 HR9 HQ hb9 ka k11 hc10
  have f0 := X9b.out.cell 0 rfl; have f1 := X9b.out.cell 1 rfl; have f2 := X9b.out.cell 2 rfl; have f3 := X9b.out.cell 3 rfl; have f4 := X9b.out.cell 4 rfl; have f5 := X9b.out.cell 5 rfl; have f6 := X9b.out.cell 6 rfl; have f7 := X9b.out.cell 7 rfl; have f8 := X9b.out.cell 8 rfl
  have g0 := X10b.out.cell 0 rfl; have g1 := X10b.out.cell 1 rfl; have g2 := X10b.out.cell 2 rfl; have g3 := X10b.out.cell 3 rfl; have g4 := X10b.out.cell 4 rfl
  rw [hW11] at f0 f1 f2 f3 f4 f5 f6 f7 f8 g0 g1 g2 g3 g4
  go_wp2_with fail
  rw [← hW11]
  clear hW11 f0 f1 f2 f3 f4 f5 f6 f7 f8 g0 g1 g2 g3 g4
  obtain ⟨D12, hD12⟩ : ∃ D12, D12 = w10.heap.size := ⟨_, rfl⟩
  rw [← hD12] at X12 X13 ⊢
  clear hD12
  have HSt := Lib.hid (stepO e e0 e1' e2' e3' HRb.out.1 HRb.out.2 (HTb.out.below hbb.out))
  unfold StpO at HSt
  rw [HR3.out.1, HR3.out.2.1, HR3.out.2.2] at HSt
  generalize stepM dX mX = mZ at HSt
  refine HSt.out.mono ?_
  rintro e' w14 ⟨P, P0, P1, P2, P3, p, p0, p1, p2, p3, rfl, HP, hc14⟩
  clear HSt HR3
  obtain ⟨W15, hW15⟩ : ∃ W15, W15 = (w14.alloc (.cells #[.int .i64 d.pc, .int .i64 d.sp, .int .i64 d.bank, .int .i64 d.level, .bool d.zero, .bool d.carry, .bool d.on, .bool d.halt, .slice P 16 p] 25)).alloc (.cells #[.slice P0 256 p0, .slice P1 32 p1, .slice P2 256 p2, .slice P3 16 p3, .int .i64 mZ.s] 31) := ⟨_, rfl⟩
  have k15 : Below w14.heap.size w14 W15 := by rw [hW15]; exact bt (alloc_below _ _) (alloc_below _ _)
  have X15 : Hid (Box W15 w14.heap.size 25 #[.int .i64 d.pc, .int .i64 d.sp, .int .i64 d.bank, .int .i64 d.level, .bool d.zero, .bool d.carry, .bool d.on, .bool d.halt, .slice P 16 p]) := Lib.hid (by rw [hW15]; exact (Box.new _ _ _).alloc _)
  have kc := bt hc14 k15
  have X9c := Lib.hid (X9b.out.step kc)
  have X10c := Lib.hid (X10b.out.step kc)
  have X12c := Lib.hid (X12.out.step kc)
  have X13c := Lib.hid (X13.out.step kc)
  have XCc := Lib.hid (XCb.out.step kc)
  have RCc := Lib.hid (RCb.out.below kc)
  have HRc := Lib.hid (And.intro (HRb.out.1.below kc) (HRb.out.2.below kc))
  have HQc := Lib.hid (And.intro (HQb.out.1.below kc) (HQb.out.2.below kc))
  have HPc2 := Lib.hid (HP.out.1.below k15)
  have hbc := Lib.hid (bt hbb.out kc)
  clear X9b X10b X12 X13 XCb RCb HRb HQb HP hbb kc k15 hc14
  have f0 := X9c.out.cell 0 rfl; have f1 := X9c.out.cell 1 rfl; have f2 := X9c.out.cell 2 rfl; have f3 := X9c.out.cell 3 rfl; have f4 := X9c.out.cell 4 rfl; have f5 := X9c.out.cell 5 rfl; have f6 := X9c.out.cell 6 rfl; have f7 := X9c.out.cell 7 rfl; have f8 := X9c.out.cell 8 rfl
  have g0 := X12c.out.cell 0 rfl; have g1 := X12c.out.cell 1 rfl; have g2 := X12c.out.cell 2 rfl; have g3 := X12c.out.cell 3 rfl; have g4 := X12c.out.cell 4 rfl; have g5 := X12c.out.cell 5 rfl; have g6 := X12c.out.cell 6 rfl; have g7 := X12c.out.cell 7 rfl; have g8 := X12c.out.cell 8 rfl
  rw [hW15] at f0 f1 f2 f3 f4 f5 f6 f7 f8 g0 g1 g2 g3 g4 g5 g6 g7 g8
  go_wp2_with fail
  rw [← hW15]
  clear hW15 f0 f1 f2 f3 f4 f5 f6 f7 f8 g0 g1 g2 g3 g4 g5 g6 g7 g8
  obtain ⟨D15, hD15⟩ : ∃ D15, D15 = w14.heap.size := ⟨_, rfl⟩
  rw [← hD15] at X15 ⊢
  clear hD15
  refine (lawSameCpu e q HRc.out.1 HQc.out.1).mono ?_
  rintro e' w16 ⟨rfl, hc16⟩
  have X9d := Lib.hid (X9c.out.step hc16)
  have X10d := Lib.hid (X10c.out.step hc16)
  have X13d := Lib.hid (X13c.out.step hc16)
  have X15d := Lib.hid (X15.out.step hc16)
  have XCd := Lib.hid (XCc.out.step hc16)
  have RCd := Lib.hid (RCc.out.below hc16)
  have HRd := Lib.hid (HRc.out.2.below hc16)
  have HQd := Lib.hid (HQc.out.2.below hc16)
  have HPd := Lib.hid (HPc2.out.below hc16)
  have hbd := Lib.hid (bt hbc.out hc16)
  clear X9c X10c X12c X13c X15 XCc RCc HRc HQc HPc2 hbc hc16
  have f0 := X10d.out.cell 0 rfl; have f1 := X10d.out.cell 1 rfl; have f2 := X10d.out.cell 2 rfl; have f3 := X10d.out.cell 3 rfl; have f4 := X10d.out.cell 4 rfl
  have g0 := X13d.out.cell 0 rfl; have g1 := X13d.out.cell 1 rfl; have g2 := X13d.out.cell 2 rfl; have g3 := X13d.out.cell 3 rfl; have g4 := X13d.out.cell 4 rfl
  go_wp2_with fail
  clear f0 f1 f2 f3 f4 g0 g1 g2 g3 g4
  refine (lawSameMemR e0 e1' e2' e3' q0 q1 q2 q3 HRd.out HQd.out).mono ?_
  rintro e' w17 ⟨rfl, hc17⟩
  have X9e := Lib.hid (X9d.out.step hc17)
  have X15e := Lib.hid (X15d.out.step hc17)
  have XCe := Lib.hid (XCd.out.step hc17)
  have RCe := Lib.hid (RCd.out.below hc17)
  have HPe := Lib.hid (HPd.out.below hc17)
  have hbe := Lib.hid (bt hbd.out hc17)
  clear X9d X10d X13d X15d XCd RCd HRd HQd HPd hbd hc17
  have y0 : Box w17 D9 25 #[.int .i64 dX.pc, .int .i64 dX.sp, .int .i64 dX.bank, .int .i64 dX.level, .bool dX.zero, .bool dX.carry, .bool dX.on, .bool dX.halt, .slice B 16 e] := X9e.out
  have f0 := X9e.out.cell 0 rfl
  have f3 := X9e.out.cell 3 rfl
  rw [HPc.out.1] at f0
  rw [HPc.out.2] at f3
  clear y0
  have j1 : ((lv : Int) == (lv : Int)) = true := by simp
  have j2 : (704 + 4 * (K : Int) == 704 + 4 * (K : Int)) = true := by simp
  have g0 := X15e.out.cell 0 rfl; have g1 := X15e.out.cell 1 rfl; have g2 := X15e.out.cell 2 rfl; have g3 := X15e.out.cell 3 rfl; have g4 := X15e.out.cell 4 rfl; have g5 := X15e.out.cell 5 rfl; have g6 := X15e.out.cell 6 rfl; have g7 := X15e.out.cell 7 rfl; have g8 := X15e.out.cell 8 rfl
  have h0 := XCe.out.cell 0 rfl; have h1 := XCe.out.cell 1 rfl; have h2 := XCe.out.cell 2 rfl; have h3 := XCe.out.cell 3 rfl; have h4 := XCe.out.cell 4 rfl; have h5 := XCe.out.cell 5 rfl; have h6 := XCe.out.cell 6 rfl; have h7 := XCe.out.cell 7 rfl; have h8 := XCe.out.cell 8 rfl
  go_wp2_with fail
  clear g0 g1 g2 g3 g4 g5 g6 g7 g8 h0 h1 h2 h3 h4 h5 h6 h7 h8 f0 f3
  refine (lawSameCpu p cc HPe.out RCe.out).mono ?_
  rintro e' w18 ⟨rfl, hc18⟩
  have hmarkZ := True.intro
  go_wp2
  go_ret
  exact ⟨rfl, bt hbe.out hc18⟩
end Go.Proofs.YtcchhbkbnbphhaaGreatDoor
