/- The law FnCpu, walked. Written by gen_walkcpu.py. -/
import Derived.Test.YtcchhbkbnbphhaaGreatDoorM13
import Derived.Test.YtcchhbkbnbphhaaGreatDoorDrawCpu
import Derived.Test.YtcchhbkbnbphhaaGreatDoorDrawCoded
import Derived.Test.YtcchhbkbnbphhaaGreatDoorM5
namespace Go.Proofs.YtcchhbkbnbphhaaGreatDoor
open Go.RowKit

def CpuB (W : World) (b : Nat) (A : Option Addr) (c : Nat) (d : CD) : Prop := Box W b 25 #[.int .i64 d.pc, .int .i64 d.sp, .int .i64 d.bank, .int .i64 d.level, .bool d.zero, .bool d.carry, .bool d.on, .bool d.halt, .slice A 16 c]
def MemB (W : World) (b : Nat) (A0 A1 A2 A3 : Option Addr) (c0 c1 c2 c3 : Nat) (m : MD) : Prop := Box W b 31 #[.slice A0 256 c0, .slice A1 32 c1, .slice A2 256 c2, .slice A3 16 c3, .int .i64 m.s]
set_option maxRecDepth 100000 in
set_option maxHeartbeats 16000000 in
theorem walkCpu (A : Option Addr) (n c : Nat) (zs : List Nat) (A' : Option Addr) (n' c' : Nat) (zs' : List Nat) (w : World) (hl : zs.length = n) (hn : n ≤ maxLen) (h : ByB w w.heap.size A zs) (hl' : zs'.length = n') (hn' : n' ≤ maxLen) (h' : ByB w w.heap.size A' zs') (ht : OpsT w) :
    Calls Tryz.prog 3 #[.slice A n c, .slice A' n' c'] w fun e w' => e = .returned (.bool true) ∧ Below w.heap.size w w' := by
  have HN1 := Lib.hid hn
  have HN2 := Lib.hid hn'
  unfold maxLen at hn hn'
  by_cases hle : 1048576 < n
  · have i1 : (1048576 : Int) < (n : Int) := by omega
    clear hle
    go_enter Tryz.func3, Tryz.ntmps3
    go_wp2
    go_ret
    exact ⟨rfl, Below.refl _ _⟩
  have i1 : ¬ (1048576 : Int) < (n : Int) := by omega
  by_cases hle' : 1048576 < n'
  · have i2 : (1048576 : Int) < (n' : Int) := by omega
    clear hle'
    go_enter Tryz.func3, Tryz.ntmps3
    go_wp2
    go_ret
    exact ⟨rfl, Below.refl _ _⟩
  have i2 : ¬ (1048576 : Int) < (n' : Int) := by omega
  have HA0 : Hid (∀ W, Below w.heap.size w W → Calls Tryz.prog 13 #[.slice A' n' c', .int .i64 0, .int .i64 4] W fun e w' => e = .returned (.int .i64 (atOf zs' 0 4 : Nat)) ∧ Below W.heap.size W w') := Lib.hid (fun W hb => lawAtE 0 4 A' n' c' zs' W (by omega) (by omega) (by omega) (by omega) hl' (h'.step hb))
  have hK := atOf_lt zs' 0 4 (by omega)
  generalize atOf zs' 0 4 = r at HA0 hK
  have HN := Lib.hid hK
  have HTb := Lib.hid ht
  have HCd := Lib.hid (cpuDrawn A n c zs w HN1.out hl h)
  have HMd := Lib.hid (fun W (hb : Below w.heap.size w W) => codedMem A' n' c' zs' W HN2.out hl' (h'.step hb))
  clear hl hl' hn hn' h h' hle hle' hK ht HN1 HN2
  go_enter Tryz.func3, Tryz.ntmps3
  go_wp2_with fail
  refine HCd.out.mono ?_
  rintro e w1 ⟨d, Ac, cc, rfl, RC1, hb1⟩
  obtain ⟨W2, hW2⟩ : ∃ W2, W2 = w1.alloc (.cells #[.int .i64 d.pc, .int .i64 d.sp, .int .i64 d.bank, .int .i64 d.level, .bool d.zero, .bool d.carry, .bool d.on, .bool d.halt, .slice Ac 16 cc] 25) := ⟨_, rfl⟩
  have k2 : Below w1.heap.size w1 W2 := by rw [hW2]; exact alloc_below _ _
  have XC2 : Hid (Box W2 w1.heap.size 25 #[.int .i64 d.pc, .int .i64 d.sp, .int .i64 d.bank, .int .i64 d.level, .bool d.zero, .bool d.carry, .bool d.on, .bool d.halt, .slice Ac 16 cc]) := Lib.hid (by rw [hW2]; exact Box.new _ _ _)
  have RC2 := Lib.hid (RC1.out.below k2)
  have hb2 := bt hb1 k2
  have Z1 := Lib.hid hb1.size
  clear RC1 hb1 k2 HCd
  go_wp2_with fail
  rw [← hW2]
  clear hW2
  obtain ⟨D5, hD5⟩ : ∃ D5, D5 = w1.heap.size := ⟨_, rfl⟩
  rw [← hD5] at XC2 Z1 ⊢
  clear hD5
  refine (HMd.out W2 hb2).mono ?_
  rintro e w3 ⟨r', i', zr, gr, A0, A1, A2, A3, c0, c1, c2, c3, hok, rfl, OA, k3⟩
  have k3 := k3.out
  have OM3 : OwnM w3 W2.heap.size w3.heap.size A0 A1 A2 A3 c0 c1 c2 c3 ⟨r', i', zr, gr, 0⟩ := ⟨MD.ok_iff.1 hok.out, OA.out⟩
  have RM3 := OM3.rep
  obtain ⟨W4, hW4⟩ : ∃ W4, W4 = w3.alloc (.cells #[.slice A0 256 c0, .slice A1 32 c1, .slice A2 256 c2, .slice A3 16 c3, .int .i64 0] 31) := ⟨_, rfl⟩
  have k4 : Below w3.heap.size w3 W4 := by rw [hW4]; exact alloc_below _ _
  have XM4 : Hid (Box W4 w3.heap.size 31 #[.slice A0 256 c0, .slice A1 32 c1, .slice A2 256 c2, .slice A3 16 c3, .int .i64 0]) := Lib.hid (by rw [hW4]; exact Box.new _ _ _)
  have XC4 := Lib.hid (XC2.out.step (bt k3 k4))
  have HNE : Hid (D5 < w3.heap.size ∧ w.heap.size ≤ D5) := Lib.hid ⟨(XC2.out.step k3).lt, Z1.out⟩
  have HI0 : Hid (∃ d m A c A0 A1 A2 A3 c0 c1 c2 c3, CpuB W4 D5 A c d ∧ MemB W4 w3.heap.size A0 A1 A2 A3 c0 c1 c2 c3 m ∧ RepC W4 A d ∧ RepM W4 A0 A1 A2 A3 m) :=
    Lib.hid ⟨d, ⟨r', i', zr, gr, 0⟩, _, _, _, _, _, _, _, _, _, _, XC4.out, XM4.out, RC2.out.below (bt k3 k4), RM3.below k4⟩
  have HB4 := Lib.hid (bt hb2 (bt k3 k4))
  clear hok OA k3 OM3 RM3 k4 XM4 XC4 XC2 RC2 hb2 Z1 HMd
  go_wp2
  rw [← hW4]
  clear hW4
  obtain ⟨D6, hD6⟩ : ∃ D6, D6 = w3.heap.size := ⟨_, rfl⟩
  rw [← hD6] at HNE HI0 ⊢
  clear hD6
  go_loopw [7] (fun i wr => ∃ j : Nat, j ≤ 6 ∧ i = .int .i64 (j : Int) ∧ Hid (∃ d m A c A0 A1 A2 A3 c0 c1 c2 c3, CpuB wr D5 A c d ∧ MemB wr D6 A0 A1 A2 A3 c0 c1 c2 c3 m ∧ RepC wr A d ∧ RepM wr A0 A1 A2 A3 m) ∧ Hid (Below w.heap.size w wr)) (fun i _ => 6 - (intOf i).toNat)
  case atStart => exact ⟨0, by omega, rfl, HI0, HB4⟩
  case round =>
    clear HI0 HB4
    obtain ⟨j, hj, rfl, HI, HB⟩ := hrel
    by_cases hlt : j < 6
    · obtain ⟨d, m, A, c, A0, A1, A2, A3, c0, c1, c2, c3, XC, XM, RC, RM⟩ := HI.out
      have hjl : (j : Int) < 6 := by omega
      have HS := Lib.hid (stepO c c0 c1 c2 c3 RC RM (HTb.out.below HB.out))
      have HT2 := Lib.hid (fun W (k : Below wr.heap.size wr W) => stepSO c c0 c1 c2 c3 (RC.below k) (RM.below k))
      have HTw := stepN_two d m
      have HXC := Lib.hid XC
      have HXM := Lib.hid XM
      clear HI XC XM RC RM
      unfold CpuB at HXC
      unfold MemB at HXM
      unfold StpO at HS HT2
      have f0 := HXC.out.cell 0 rfl; have f1 := HXC.out.cell 1 rfl; have f2 := HXC.out.cell 2 rfl; have f3 := HXC.out.cell 3 rfl; have f4 := HXC.out.cell 4 rfl; have f5 := HXC.out.cell 5 rfl; have f6 := HXC.out.cell 6 rfl; have f7 := HXC.out.cell 7 rfl; have f8 := HXC.out.cell 8 rfl
      have g0 := HXM.out.cell 0 rfl; have g1 := HXM.out.cell 1 rfl; have g2 := HXM.out.cell 2 rfl; have g3 := HXM.out.cell 3 rfl; have g4 := HXM.out.cell 4 rfl
      go_wp2_with fail
      refine HS.out.mono ?_
      rintro e w2 ⟨B, B0, B1, B2, B3, e, e0, e1, e2, e3, rfl, HR, hc2⟩
      clear HS f0 f1 f2 f3 f4 f5 f6 f7 f8 g0 g1 g2 g3 g4
      generalize stepD d m = d' at HR HT2 ⊢
      generalize stepM d m = m' at HR HT2 ⊢
      generalize stepN d m = nn at HTw HT2 ⊢
      generalize stepS d m = ss at HT2 ⊢
      have i3 : ¬ nn < 2 := by omega
      have i4 : (nn != nn) = false := by simp
      have i5 : (ss != ss) = false := by simp
      clear HTw
      obtain ⟨W4, hW4⟩ : ∃ W4, W4 = (w2.alloc (.cells #[.int .i64 d'.pc, .int .i64 d'.sp, .int .i64 d'.bank, .int .i64 d'.level, .bool d'.zero, .bool d'.carry, .bool d'.on, .bool d'.halt, .slice B 16 e] 25)).alloc (.cells #[.slice B0 256 e0, .slice B1 32 e1, .slice B2 256 e2, .slice B3 16 e3, .int .i64 m'.s] 31) := ⟨_, rfl⟩
      have k4 : Below w2.heap.size w2 W4 := by rw [hW4]; exact bt (alloc_below _ _) (alloc_below _ _)
      have hs4 : W4.heap.size = w2.heap.size + 2 := by rw [hW4]; simp
      have X8 : Hid (Box W4 w2.heap.size 25 #[.int .i64 d'.pc, .int .i64 d'.sp, .int .i64 d'.bank, .int .i64 d'.level, .bool d'.zero, .bool d'.carry, .bool d'.on, .bool d'.halt, .slice B 16 e]) := Lib.hid (by rw [hW4]; exact (Box.new _ _ _).alloc _)
      have X9 : Hid (Box W4 (w2.heap.size + 1) 31 #[.slice B0 256 e0, .slice B1 32 e1, .slice B2 256 e2, .slice B3 16 e3, .int .i64 m'.s]) := Lib.hid (by rw [hW4]; simpa using Box.new (w2.alloc (.cells #[.int .i64 d'.pc, .int .i64 d'.sp, .int .i64 d'.bank, .int .i64 d'.level, .bool d'.zero, .bool d'.carry, .bool d'.on, .bool d'.halt, .slice B 16 e] 25)) 31 #[.slice B0 256 e0, .slice B1 32 e1, .slice B2 256 e2, .slice B3 16 e3, .int .i64 m'.s])
      have XC4 := Lib.hid (HXC.out.step (bt hc2 k4))
      have XM4 := Lib.hid (HXM.out.step (bt hc2 k4))
      have HR4 := Lib.hid (And.intro (HR.out.1.below k4) (HR.out.2.below k4))
      have hb4 := bt hc2 k4
      have HNE2 : Hid ((D5 < D6 ∧ w.heap.size ≤ D5) ∧ D5 < w2.heap.size ∧ D6 < w2.heap.size ∧ w2.heap.size + 1 < W4.heap.size) := Lib.hid ⟨HNE.out, (HXC.out.step hc2).lt, (HXM.out.step hc2).lt, by omega⟩
      clear HXC HXM HR hc2 k4 hs4
      have f0 := XC4.out.cell 0 rfl; have f1 := XC4.out.cell 1 rfl; have f2 := XC4.out.cell 2 rfl; have f3 := XC4.out.cell 3 rfl; have f4 := XC4.out.cell 4 rfl; have f5 := XC4.out.cell 5 rfl; have f6 := XC4.out.cell 6 rfl; have f7 := XC4.out.cell 7 rfl; have f8 := XC4.out.cell 8 rfl
      have g0 := XM4.out.cell 0 rfl; have g1 := XM4.out.cell 1 rfl; have g2 := XM4.out.cell 2 rfl; have g3 := XM4.out.cell 3 rfl; have g4 := XM4.out.cell 4 rfl
      rw [hW4] at f0 f1 f2 f3 f4 f5 f6 f7 f8 g0 g1 g2 g3 g4
      go_wp2_with fail
      rw [← hW4]
      clear hW4 f0 f1 f2 f3 f4 f5 f6 f7 f8 g0 g1 g2 g3 g4
      obtain ⟨D8, hD8⟩ : ∃ D8, D8 = w2.heap.size := ⟨_, rfl⟩
      rw [← hD8] at X8 X9 HNE2 ⊢
      clear hD8
      refine (HT2.out W4 hb4).mono ?_
      rintro e' w5 ⟨Q, Q0, Q1, Q2, Q3, q, q0, q1, q2, q3, rfl, HQ, hc5⟩
      clear HT2
      obtain ⟨W6, hW6⟩ : ∃ W6, W6 = (w5.alloc (.cells #[.int .i64 d'.pc, .int .i64 d'.sp, .int .i64 d'.bank, .int .i64 d'.level, .bool d'.zero, .bool d'.carry, .bool d'.on, .bool d'.halt, .slice Q 16 q] 25)).alloc (.cells #[.slice Q0 256 q0, .slice Q1 32 q1, .slice Q2 256 q2, .slice Q3 16 q3, .int .i64 m'.s] 31) := ⟨_, rfl⟩
      have k6 : Below w5.heap.size w5 W6 := by rw [hW6]; exact bt (alloc_below _ _) (alloc_below _ _)
      have Y8 : Hid (Box W6 w5.heap.size 25 #[.int .i64 d'.pc, .int .i64 d'.sp, .int .i64 d'.bank, .int .i64 d'.level, .bool d'.zero, .bool d'.carry, .bool d'.on, .bool d'.halt, .slice Q 16 q]) := Lib.hid (by rw [hW6]; exact (Box.new _ _ _).alloc _)
      have Y9 : Hid (Box W6 (w5.heap.size + 1) 31 #[.slice Q0 256 q0, .slice Q1 32 q1, .slice Q2 256 q2, .slice Q3 16 q3, .int .i64 m'.s]) := Lib.hid (by rw [hW6]; simpa using Box.new (w5.alloc (.cells #[.int .i64 d'.pc, .int .i64 d'.sp, .int .i64 d'.bank, .int .i64 d'.level, .bool d'.zero, .bool d'.carry, .bool d'.on, .bool d'.halt, .slice Q 16 q] 25)) 31 #[.slice Q0 256 q0, .slice Q1 32 q1, .slice Q2 256 q2, .slice Q3 16 q3, .int .i64 m'.s])
      have k46 := bt hc5 k6
      have XC6 := Lib.hid (XC4.out.step k46)
      have XM6 := Lib.hid (XM4.out.step k46)
      have X86 := Lib.hid (X8.out.step k46)
      have X96 := Lib.hid (X9.out.step k46)
      have HR6 := Lib.hid (And.intro (HR4.out.1.below k46) (HR4.out.2.below k46))
      have HQ6 := Lib.hid (And.intro (HQ.out.1.below k6) (HQ.out.2.below k6))
      have hb6 := bt hb4 k46
      have HNE3 : Hid (D8 + 1 < w5.heap.size) := Lib.hid (by have := hc5.size; have := HNE2.out; omega)
      clear XC4 XM4 X8 X9 HR4 HQ hb4 k46 k6 hc5
      have f0 := X86.out.cell 0 rfl; have f1 := X86.out.cell 1 rfl; have f2 := X86.out.cell 2 rfl; have f3 := X86.out.cell 3 rfl; have f4 := X86.out.cell 4 rfl; have f5 := X86.out.cell 5 rfl; have f6 := X86.out.cell 6 rfl; have f7 := X86.out.cell 7 rfl; have f8 := X86.out.cell 8 rfl
      have g0 := Y8.out.cell 0 rfl; have g1 := Y8.out.cell 1 rfl; have g2 := Y8.out.cell 2 rfl; have g3 := Y8.out.cell 3 rfl; have g4 := Y8.out.cell 4 rfl; have g5 := Y8.out.cell 5 rfl; have g6 := Y8.out.cell 6 rfl; have g7 := Y8.out.cell 7 rfl; have g8 := Y8.out.cell 8 rfl
      rw [hW6] at f0 f1 f2 f3 f4 f5 f6 f7 f8 g0 g1 g2 g3 g4 g5 g6 g7 g8
      go_wp2_with fail
      rw [← hW6]
      clear hW6 f0 f1 f2 f3 f4 f5 f6 f7 f8 g0 g1 g2 g3 g4 g5 g6 g7 g8
      obtain ⟨D13, hD13⟩ : ∃ D13, D13 = w5.heap.size := ⟨_, rfl⟩
      rw [← hD13] at Y8 Y9 HNE3 ⊢
      clear hD13
      refine (lawSameCpu e q HR6.out.1 HQ6.out.1).mono ?_
      rintro e' w7 ⟨rfl, hc7⟩
      have XC7 := Lib.hid (XC6.out.step hc7)
      have XM7 := Lib.hid (XM6.out.step hc7)
      have X87 := Lib.hid (X86.out.step hc7)
      have X97 := Lib.hid (X96.out.step hc7)
      have Y97 := Lib.hid (Y9.out.step hc7)
      have HR7 := Lib.hid (And.intro (HR6.out.1.below hc7) (HR6.out.2.below hc7))
      have HQ7 := Lib.hid (HQ6.out.2.below hc7)
      have hb7 := bt hb6 hc7
      clear XC6 XM6 X86 X96 Y8 Y9 HR6 HQ6 hb6 hc7
      have f0 := X97.out.cell 0 rfl; have f1 := X97.out.cell 1 rfl; have f2 := X97.out.cell 2 rfl; have f3 := X97.out.cell 3 rfl; have f4 := X97.out.cell 4 rfl
      have g0 := Y97.out.cell 0 rfl; have g1 := Y97.out.cell 1 rfl; have g2 := Y97.out.cell 2 rfl; have g3 := Y97.out.cell 3 rfl; have g4 := Y97.out.cell 4 rfl
      go_wp2_with fail
      clear f0 f1 f2 f3 f4 g0 g1 g2 g3 g4
      refine (lawSameMemR e0 e1 e2 e3 q0 q1 q2 q3 HR7.out.2 HQ7.out).mono ?_
      rintro e' w8 ⟨rfl, hc8⟩
      have XC8 := Lib.hid (XC7.out.step hc8)
      have XM8 := Lib.hid (XM7.out.step hc8)
      have X88 := Lib.hid (X87.out.step hc8)
      have X98 := Lib.hid (X97.out.step hc8)
      have HR8 := Lib.hid (And.intro (HR7.out.1.below hc8) (HR7.out.2.below hc8))
      have hb8 := bt hb7 hc8
      clear XC7 XM7 X87 X97 Y97 HR7 HQ7 hb7 hc8
      have f0 := X88.out.cell 0 rfl; have f1 := X88.out.cell 1 rfl; have f2 := X88.out.cell 2 rfl; have f3 := X88.out.cell 3 rfl; have f4 := X88.out.cell 4 rfl; have f5 := X88.out.cell 5 rfl; have f6 := X88.out.cell 6 rfl; have f7 := X88.out.cell 7 rfl; have f8 := X88.out.cell 8 rfl
      go_wp2_with fail
      clear f0 f1 f2 f3 f4 f5 f6 f7 f8
      refine (cpuOkS e HR8.out.1).mono ?_
      rintro e' w9 ⟨rfl, hc9⟩
      have XC9 := Lib.hid (XC8.out.step hc9)
      have XM9 := Lib.hid (XM8.out.step hc9)
      have X89 := Lib.hid (X88.out.step hc9)
      have X99 := Lib.hid (X98.out.step hc9)
      have HR9 := Lib.hid (And.intro (HR8.out.1.below hc9) (HR8.out.2.below hc9))
      have HB9 := Lib.hid (bt HB.out (bt hb8 hc9))
      clear XC8 XM8 X88 X98 HR8 hb8 hc9
      have m1 : ¬ D5 = D6 := by have := HNE2.out; omega
      have m2 : ¬ D6 = D5 := by have := HNE2.out; omega
      have m3 : ¬ D5 = D8 := by have := HNE2.out; omega
      have m4 : ¬ D8 = D5 := by have := HNE2.out; omega
      have m5 : ¬ D5 = D8 + 1 := by have := HNE2.out; omega
      have m6 : ¬ D8 + 1 = D5 := by have := HNE2.out; omega
      have m7 : ¬ D6 = D8 + 1 := by have := HNE2.out; omega
      have m8 : ¬ D8 + 1 = D6 := by have := HNE2.out; omega
      have f0 := XC9.out.cell 0 rfl; have f1 := XC9.out.cell 1 rfl; have f2 := XC9.out.cell 2 rfl; have f3 := XC9.out.cell 3 rfl; have f4 := XC9.out.cell 4 rfl; have f5 := XC9.out.cell 5 rfl; have f6 := XC9.out.cell 6 rfl; have f7 := XC9.out.cell 7 rfl; have f8 := XC9.out.cell 8 rfl; have fz0 := XC9.out.frozen 0; have fz1 := XC9.out.frozen 1; have fz2 := XC9.out.frozen 2; have fz3 := XC9.out.frozen 3; have fz4 := XC9.out.frozen 4; have fz5 := XC9.out.frozen 5; have fz6 := XC9.out.frozen 6; have fz7 := XC9.out.frozen 7; have fz8 := XC9.out.frozen 8
      have g0 := XM9.out.cell 0 rfl; have g1 := XM9.out.cell 1 rfl; have g2 := XM9.out.cell 2 rfl; have g3 := XM9.out.cell 3 rfl; have g4 := XM9.out.cell 4 rfl; have gz0 := XM9.out.frozen 0; have gz1 := XM9.out.frozen 1; have gz2 := XM9.out.frozen 2; have gz3 := XM9.out.frozen 3; have gz4 := XM9.out.frozen 4
      have h0 := X89.out.cell 0 rfl; have h1 := X89.out.cell 1 rfl; have h2 := X89.out.cell 2 rfl; have h3 := X89.out.cell 3 rfl; have h4 := X89.out.cell 4 rfl; have h5 := X89.out.cell 5 rfl; have h6 := X89.out.cell 6 rfl; have h7 := X89.out.cell 7 rfl; have h8 := X89.out.cell 8 rfl
      have k0 := X99.out.cell 0 rfl; have k1 := X99.out.cell 1 rfl; have k2 := X99.out.cell 2 rfl; have k3 := X99.out.cell 3 rfl; have k4 := X99.out.cell 4 rfl
      go_wp2
      clear f0 f1 f2 f3 f4 f5 f6 f7 f8 fz0 fz1 fz2 fz3 fz4 fz5 fz6 fz7 fz8 g0 g1 g2 g3 g4 gz0 gz1 gz2 gz3 gz4 h0 h1 h2 h3 h4 h5 h6 h7 h8 k0 k1 k2 k3 k4 m1 m2 m3 m4 m5 m6 m7 m8
      obtain ⟨Wa, hWa⟩ : ∃ Wa, Wa = (((((((((w9.setCell ⟨D5, 0, none⟩ (.int .i64 d'.pc)).setCell ⟨D5, 1, none⟩ (.int .i64 d'.sp)).setCell ⟨D5, 2, none⟩ (.int .i64 d'.bank)).setCell ⟨D5, 3, none⟩ (.int .i64 d'.level)).setCell ⟨D5, 4, none⟩ (.bool d'.zero)).setCell ⟨D5, 5, none⟩ (.bool d'.carry)).setCell ⟨D5, 6, none⟩ (.bool d'.on)).setCell ⟨D5, 7, none⟩ (.bool d'.halt)).setCell ⟨D5, 8, none⟩ (.slice B 16 e)) := ⟨_, rfl⟩
      have Ba : Btw D5 (D5 + 1) w9 Wa := by rw [hWa]; exact (Btw.refl _ _ _).put.put.put.put.put.put.put.put.put
      have XCa : Hid (Box Wa D5 25 #[.int .i64 d'.pc, .int .i64 d'.sp, .int .i64 d'.bank, .int .i64 d'.level, .bool d'.zero, .bool d'.carry, .bool d'.on, .bool d'.halt, .slice B 16 e]) := Lib.hid (by rw [hWa]; exact (XC9.out.allN9 rfl _ _ _ _ _ _ _ _ _))
      have XMa := Lib.hid (XM9.out.btw Ba (.inr (by have := HNE2.out; omega)))
      have HRa := Lib.hid (And.intro (HR9.out.1.off XC9.out (by simp) Ba) (HR9.out.2.off XC9.out (by simp) Ba))
      have HBa := Lib.hid (HB9.out.trans ((Ba.below (Nat.le_of_lt XC9.out.lt)).mono HNE.out.2))
      rw [← hWa]
      clear hWa Ba XC9 XM9 HR9 HB9
      obtain ⟨Wb, hWb⟩ : ∃ Wb, Wb = (((((Wa.setCell ⟨D6, 0, none⟩ (.slice B0 256 e0)).setCell ⟨D6, 1, none⟩ (.slice B1 32 e1)).setCell ⟨D6, 2, none⟩ (.slice B2 256 e2)).setCell ⟨D6, 3, none⟩ (.slice B3 16 e3)).setCell ⟨D6, 4, none⟩ (.int .i64 m'.s)) := ⟨_, rfl⟩
      have Bb : Btw D6 (D6 + 1) Wa Wb := by rw [hWb]; exact (Btw.refl _ _ _).put.put.put.put.put
      have XMb : Hid (Box Wb D6 31 #[.slice B0 256 e0, .slice B1 32 e1, .slice B2 256 e2, .slice B3 16 e3, .int .i64 m'.s]) := Lib.hid (by rw [hWb]; exact (XMa.out.allN5 rfl _ _ _ _ _))
      have XCb := Lib.hid (XCa.out.btw Bb (.inl (by have := HNE2.out; omega)))
      have HRb := Lib.hid (And.intro (HRa.out.1.off XMa.out (by simp) Bb) (HRa.out.2.off XMa.out (by simp) Bb))
      have HBb := Lib.hid (HBa.out.trans ((Bb.below (Nat.le_of_lt XMa.out.lt)).mono (by have := HNE2.out; omega)))
      rw [← hWb]
      clear hWb Bb XCa XMa HRa HBa
      go_roundw
      case rel => exact ⟨j + 1, by omega, by go_num, Lib.hid ⟨d', m', _, _, _, _, _, _, _, _, _, _, XCb.out, XMb.out, HRb.out.1, HRb.out.2⟩, HBb⟩
      case measure => simp [intOf]; omega
    · obtain rfl : j = 6 := by omega
      obtain ⟨d, m, A, c, A0, A1, A2, A3, c0, c1, c2, c3, XC, -, RC, -⟩ := HI.out
      have HX := Lib.hid XC
      have HRg := Lib.hid (fun W (h : RepC W A d) => regAtS c r HN.out h)
      have HSm := Lib.hid (fun W (h : RepC W A d) => cpuSameS c h)
      have HRC := Lib.hid RC
      have hbk := RC.1.bank
      obtain ⟨jj, hjj⟩ : ∃ jj : Nat, 4 * d.bank + (r : Int) = jj := ⟨(4 * d.bank + (r : Int)).toNat, by omega⟩
      have i6 : (jj : Int) < 16 := by have := HN.out; omega
      have i7 : (0 : Int) ≤ (jj : Int) := by omega
      have e1 : IntKind.i64.wrap (4 * d.bank) = 4 * d.bank := IntWalk.i64_in _ (by omega)
      have e2 : IntKind.i64.wrap (4 * d.bank + (r : Int)) = (jj : Int) := by rw [IntWalk.i64_in _ (by have := HN.out; omega)]; exact hjj
      obtain ⟨b8, o8, rfl, hrow⟩ := RC.2 jj (by rw [RC.1.len]; omega)
      rw [hjj] at HRg
      simp only [Int.toNat_natCast] at HRg
      generalize d.regs.getD jj 0 = v at HRg hrow
      have i8 : (v == v) = true := by simp
      clear HI XC RC hlt hj hbk hjj
      unfold CpuB at HX
      have f0 := HX.out.cell 0 rfl; have f1 := HX.out.cell 1 rfl; have f2 := HX.out.cell 2 rfl; have f3 := HX.out.cell 3 rfl; have f4 := HX.out.cell 4 rfl; have f5 := HX.out.cell 5 rfl; have f6 := HX.out.cell 6 rfl; have f7 := HX.out.cell 7 rfl; have f8 := HX.out.cell 8 rfl
      have HK := Lib.hid (fun W (hb : Below wr.heap.size wr W) => (show W.cell? ⟨D5, 0, none⟩ = some (.int .i64 d.pc) ∧ W.cell? ⟨D5, 1, none⟩ = some (.int .i64 d.sp) ∧ W.cell? ⟨D5, 2, none⟩ = some (.int .i64 d.bank) ∧ W.cell? ⟨D5, 3, none⟩ = some (.int .i64 d.level) ∧ W.cell? ⟨D5, 4, none⟩ = some (.bool d.zero) ∧ W.cell? ⟨D5, 5, none⟩ = some (.bool d.carry) ∧ W.cell? ⟨D5, 6, none⟩ = some (.bool d.on) ∧ W.cell? ⟨D5, 7, none⟩ = some (.bool d.halt) ∧ W.cell? ⟨D5, 8, none⟩ = some (.slice (some ⟨b8, o8, none⟩) 16 c) ∧ W.cell? ⟨b8, o8 + jj, none⟩ = some (.int .i64 v) from And.intro ((hb.cell (cell_lt f0)).trans f0) (And.intro ((hb.cell (cell_lt f1)).trans f1) (And.intro ((hb.cell (cell_lt f2)).trans f2) (And.intro ((hb.cell (cell_lt f3)).trans f3) (And.intro ((hb.cell (cell_lt f4)).trans f4) (And.intro ((hb.cell (cell_lt f5)).trans f5) (And.intro ((hb.cell (cell_lt f6)).trans f6) (And.intro ((hb.cell (cell_lt f7)).trans f7) (And.intro ((hb.cell (cell_lt f8)).trans f8) ((hb.cell (cell_lt hrow)).trans hrow)))))))))))
      have h6 : Below wr.heap.size wr wr.drew := (Below.refl _ _).drew
      go_wp2_with fail
      go_region_held3 (fun W => W.cell? ⟨D5, 0, none⟩ = some (.int .i64 d.pc) ∧ W.cell? ⟨D5, 1, none⟩ = some (.int .i64 d.sp) ∧ W.cell? ⟨D5, 2, none⟩ = some (.int .i64 d.bank) ∧ W.cell? ⟨D5, 3, none⟩ = some (.int .i64 d.level) ∧ W.cell? ⟨D5, 4, none⟩ = some (.bool d.zero) ∧ W.cell? ⟨D5, 5, none⟩ = some (.bool d.carry) ∧ W.cell? ⟨D5, 6, none⟩ = some (.bool d.on) ∧ W.cell? ⟨D5, 7, none⟩ = some (.bool d.halt) ∧ W.cell? ⟨D5, 8, none⟩ = some (.slice (some ⟨b8, o8, none⟩) 16 c) ∧ W.cell? ⟨b8, o8 + jj, none⟩ = some (.int .i64 v))
        (with_reducible exact HK.out _ h6)
        (first | (go_at_call 13; refine (HA0.out _ (bt HB.out h6)).mono ?_; rintro e w4 ⟨rfl, hc4⟩; replace h6 := bt h6 hc4; clear hc4) | (go_at_call 12; refine (HRg.out _ (HRC.out.below h6)).mono ?_; rintro e w5 ⟨rfl, hc5⟩; replace h6 := bt h6 hc5; clear hc5))
      have hmark14 := True.intro
      have h7 := h6.drew
      go_wp2_with fail
      go_region_held3 (fun W => W.cell? ⟨D5, 0, none⟩ = some (.int .i64 d.pc) ∧ W.cell? ⟨D5, 1, none⟩ = some (.int .i64 d.sp) ∧ W.cell? ⟨D5, 2, none⟩ = some (.int .i64 d.bank) ∧ W.cell? ⟨D5, 3, none⟩ = some (.int .i64 d.level) ∧ W.cell? ⟨D5, 4, none⟩ = some (.bool d.zero) ∧ W.cell? ⟨D5, 5, none⟩ = some (.bool d.carry) ∧ W.cell? ⟨D5, 6, none⟩ = some (.bool d.on) ∧ W.cell? ⟨D5, 7, none⟩ = some (.bool d.halt) ∧ W.cell? ⟨D5, 8, none⟩ = some (.slice (some ⟨b8, o8, none⟩) 16 c) ∧ W.cell? ⟨b8, o8 + jj, none⟩ = some (.int .i64 v))
        (with_reducible exact HK.out _ h7)
        (first | (go_at_call 13; refine (HA0.out _ (bt HB.out h7)).mono ?_; rintro e w6 ⟨rfl, hc4⟩; replace h7 := bt h7 hc4; clear hc4) | (go_at_call 14; refine (HSm.out _ (HRC.out.below h7)).mono ?_; rintro e w7 ⟨rfl, hc5⟩; replace h7 := bt h7 hc5; clear hc5))
      have hmark15 := True.intro
      go_wp2
      go_ret
      exact ⟨rfl, bt HB.out h7⟩
end Go.Proofs.YtcchhbkbnbphhaaGreatDoor
