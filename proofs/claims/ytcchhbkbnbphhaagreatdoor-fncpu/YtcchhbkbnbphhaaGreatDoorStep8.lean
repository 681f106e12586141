/- The model's step of a processor. Written by gen_step8.py. -/
import Derived.Test.YtcchhbkbnbphhaaGreatDoorM10
import Derived.Test.YtcchhbkbnbphhaaGreatDoorCpuStep
import Derived.Deep.CutBlock
import Derived.Test.YtcchhbkbnbphhaaGreatDoorM4
import Derived.Test.YtcchhbkbnbphhaaGreatDoorM8
namespace Go.Proofs.YtcchhbkbnbphhaaGreatDoor
open Go.RowKit
theorem lenS_in (k : Int) : 1 ≤ lenT k ∧ lenT k ≤ 3 := by unfold lenT; repeat' split
                                                          all_goals omega
def GSw (w : World) (dF : CD) (mF : MD) (sF : Int) (s : Value) (wx : World) : Prop := ∃ Aa ca Ab Ac Ad Ae cb cc cd ce, s = .int .i64 sF ∧ Hid (Below w.heap.size w wx) ∧ Hid (Box wx w.heap.size 25 #[.int .i64 dF.pc, .int .i64 dF.sp, .int .i64 dF.bank, .int .i64 dF.level, .bool dF.zero, .bool dF.carry, .bool dF.on, .bool dF.halt, .slice Aa 16 ca]) ∧ Hid (Box wx (w.heap.size + 1) 31 #[.slice Ab 256 cb, .slice Ac 32 cc, .slice Ad 256 cd, .slice Ae 16 ce, .int .i64 mF.s]) ∧ Hid (Box wx (w.heap.size + 2) 25 #[.int .i64 0, .int .i64 0, .int .i64 0, .int .i64 0, .bool false, .bool false, .bool false, .bool false, .slice none 0 0]) ∧ Hid (Box wx (w.heap.size + 3) 31 #[.slice none 0 0, .slice none 0 0, .slice none 0 0, .slice none 0 0, .int .i64 0]) ∧ Hid (RepC wx Aa dF) ∧ Hid (RepM wx Ab Ac Ad Ae mF)
def GInstr (W : World) (x0 x1 x2 : Int) (s : Value) (wx : World) : Prop := ∃ b, s = .pointer (some ⟨b, 0, none⟩) ∧ Hid (Below W.heap.size W wx) ∧ Hid (Box wx b 82 #[.int .i64 x0, .int .i64 x1, .int .i64 x2]) ∧ Hid (W.heap.size ≤ b)
set_option maxRecDepth 100000 in
theorem lit169 (T : Array Value) (h : T.size = 169) : T = #[T.getD 0 undef, T.getD 1 undef, T.getD 2 undef, T.getD 3 undef, T.getD 4 undef, T.getD 5 undef, T.getD 6 undef, T.getD 7 undef, T.getD 8 undef, T.getD 9 undef, T.getD 10 undef, T.getD 11 undef, T.getD 12 undef, T.getD 13 undef, T.getD 14 undef, T.getD 15 undef, T.getD 16 undef, T.getD 17 undef, T.getD 18 undef, T.getD 19 undef, T.getD 20 undef, T.getD 21 undef, T.getD 22 undef, T.getD 23 undef, T.getD 24 undef, T.getD 25 undef, T.getD 26 undef, T.getD 27 undef, T.getD 28 undef, T.getD 29 undef, T.getD 30 undef, T.getD 31 undef, T.getD 32 undef, T.getD 33 undef, T.getD 34 undef, T.getD 35 undef, T.getD 36 undef, T.getD 37 undef, T.getD 38 undef, T.getD 39 undef, T.getD 40 undef, T.getD 41 undef, T.getD 42 undef, T.getD 43 undef, T.getD 44 undef, T.getD 45 undef, T.getD 46 undef, T.getD 47 undef, T.getD 48 undef, T.getD 49 undef, T.getD 50 undef, T.getD 51 undef, T.getD 52 undef, T.getD 53 undef, T.getD 54 undef, T.getD 55 undef, T.getD 56 undef, T.getD 57 undef, T.getD 58 undef, T.getD 59 undef, T.getD 60 undef, T.getD 61 undef, T.getD 62 undef, T.getD 63 undef, T.getD 64 undef, T.getD 65 undef, T.getD 66 undef, T.getD 67 undef, T.getD 68 undef, T.getD 69 undef, T.getD 70 undef, T.getD 71 undef, T.getD 72 undef, T.getD 73 undef, T.getD 74 undef, T.getD 75 undef, T.getD 76 undef, T.getD 77 undef, T.getD 78 undef, T.getD 79 undef, T.getD 80 undef, T.getD 81 undef, T.getD 82 undef, T.getD 83 undef, T.getD 84 undef, T.getD 85 undef, T.getD 86 undef, T.getD 87 undef, T.getD 88 undef, T.getD 89 undef, T.getD 90 undef, T.getD 91 undef, T.getD 92 undef, T.getD 93 undef, T.getD 94 undef, T.getD 95 undef, T.getD 96 undef, T.getD 97 undef, T.getD 98 undef, T.getD 99 undef, T.getD 100 undef, T.getD 101 undef, T.getD 102 undef, T.getD 103 undef, T.getD 104 undef, T.getD 105 undef, T.getD 106 undef, T.getD 107 undef, T.getD 108 undef, T.getD 109 undef, T.getD 110 undef, T.getD 111 undef, T.getD 112 undef, T.getD 113 undef, T.getD 114 undef, T.getD 115 undef, T.getD 116 undef, T.getD 117 undef, T.getD 118 undef, T.getD 119 undef, T.getD 120 undef, T.getD 121 undef, T.getD 122 undef, T.getD 123 undef, T.getD 124 undef, T.getD 125 undef, T.getD 126 undef, T.getD 127 undef, T.getD 128 undef, T.getD 129 undef, T.getD 130 undef, T.getD 131 undef, T.getD 132 undef, T.getD 133 undef, T.getD 134 undef, T.getD 135 undef, T.getD 136 undef, T.getD 137 undef, T.getD 138 undef, T.getD 139 undef, T.getD 140 undef, T.getD 141 undef, T.getD 142 undef, T.getD 143 undef, T.getD 144 undef, T.getD 145 undef, T.getD 146 undef, T.getD 147 undef, T.getD 148 undef, T.getD 149 undef, T.getD 150 undef, T.getD 151 undef, T.getD 152 undef, T.getD 153 undef, T.getD 154 undef, T.getD 155 undef, T.getD 156 undef, T.getD 157 undef, T.getD 158 undef, T.getD 159 undef, T.getD 160 undef, T.getD 161 undef, T.getD 162 undef, T.getD 163 undef, T.getD 164 undef, T.getD 165 undef, T.getD 166 undef, T.getD 167 undef, T.getD 168 undef] := (litArr T 169 h).trans (by kernel_rfl)
theorem btw_rowS (w : World) (b : Nat) (cs : Array Value) : Btw b (b + 1) w (w.setRow b cs) := btw_setRow (Btw.refl _ _ _) (Nat.le_refl _) (Nat.lt_succ_self _) cs
theorem ifn8 {C0 C1 : Prop} {i z : Nat} (h : i ≠ z) (hC : C0) : if i = z then C1 else C0 := by rw [if_neg h]; exact hC
theorem ifp8 {C0 C1 : Prop} {z : Nat} (hC : C1) : if z = z then C1 else C0 := by rw [if_pos rfl]; exact hC
theorem reg_set {d : CD} (h : d.Ok) {k v : Int} (hk : 0 ≤ k ∧ k ≤ 3) : (d.set k v).reg k = v := by
  have h1 := h.bank
  have h2 := h.len
  unfold CD.reg CD.set
  simp only [List.getD_eq_getElem?_getD, List.getElem?_set, if_true]
  rw [if_pos (by omega)]
  rfl
def ldF (bt bx : Nat) (A A0 A1 A2 A3 : Option Addr) (c c0 c1 c2 c3 : Nat) (dn : CD) (m : MD) (x1 x2 v : Int) (d2 : CD) : Nat → (Nat → Value) → World → Prop
  | 0, t, _ => t 89 = .agg #[.int .i64 dn.pc, .int .i64 dn.sp, .int .i64 dn.bank, .int .i64 dn.level, .bool dn.zero, .bool dn.carry, .bool dn.on, .bool dn.halt, .slice A 16 c]
  | 1, t, _ => t 90 = .pointer (some ⟨bx, 1, none⟩)
  | 2, t, _ => t 91 = .int .i64 x1
  | 3, t, _ => t 92 = .agg #[.slice A0 256 c0, .slice A1 32 c1, .slice A2 256 c2, .slice A3 16 c3, .int .i64 m.s]
  | 4, t, _ => t 93 = .pointer (some ⟨bx, 2, none⟩)
  | 5, t, _ => t 94 = .int .i64 x2
  | 6, t, _ => t 95 = .int .i64 v
  | 7, t, w => ∃ Aa ca, t 96 = .agg #[.int .i64 d2.pc, .int .i64 d2.sp, .int .i64 d2.bank, .int .i64 d2.level, .bool d2.zero, .bool d2.carry, .bool d2.on, .bool d2.halt, .slice Aa 16 ca] ∧ RepC w Aa d2
  | 8, _, w => ∃ Aa ca, RepC w Aa d2 ∧ Box w bt 25 #[.int .i64 d2.pc, .int .i64 d2.sp, .int .i64 d2.bank, .int .i64 d2.level, .bool d2.zero, .bool d2.carry, .bool d2.on, .bool d2.halt, .slice Aa 16 ca]
  | _, _, _ => True
section
variable {bt bx : Nat} {A A0 A1 A2 A3 : Option Addr} {c c0 c1 c2 c3 : Nat} {dn : CD} {m : MD} {x1 x2 v : Int} {d2 : CD} {w w' : World}
theorem ldF_below (k : Below w.heap.size w w') : ∀ (j : Nat) (t : Nat → Value), ldF bt bx A A0 A1 A2 A3 c c0 c1 c2 c3 dn m x1 x2 v d2 j t w → ldF bt bx A A0 A1 A2 A3 c c0 c1 c2 c3 dn m x1 x2 v d2 j t w'
  | 0, _, h | 1, _, h | 2, _, h | 3, _, h | 4, _, h | 5, _, h | 6, _, h => h
  | 7, _, ⟨Aa, ca, q, N⟩ => ⟨Aa, ca, q, N.below k⟩
  | 8, _, ⟨Aa, ca, N, X⟩ => ⟨Aa, ca, N.below k, X.step k⟩
  | _ + 9, _, _ => trivial
theorem ldF_store {old : Array Value} (X : Box w bt 25 old) (cs : Array Value) (hs : old.size < 16) : ∀ (j : Nat) (t : Nat → Value), j ≠ 8 → ldF bt bx A A0 A1 A2 A3 c c0 c1 c2 c3 dn m x1 x2 v d2 j t w → ldF bt bx A A0 A1 A2 A3 c c0 c1 c2 c3 dn m x1 x2 v d2 j t (w.setRow bt cs)
  | 0, _, _, h | 1, _, _, h | 2, _, _, h | 3, _, _, h | 4, _, _, h | 5, _, _, h | 6, _, _, h => h
  | 7, _, _, ⟨Aa, ca, q, N⟩ => ⟨Aa, ca, q, N.off X hs (btw_rowS _ _ _)⟩
  | 8, _, n, _ => (n rfl).elim
  | _ + 9, _, _, _ => trivial
end
def stF8 (bt bx : Nat) (A A0 A1 A2 A3 : Option Addr) (c c0 c1 c2 c3 : Nat) (dn : CD) (m : MD) (x1 x2 v : Int) (m2 : MD) : Nat → (Nat → Value) → World → Prop
  | 0, t, _ => t 105 = .agg #[.slice A0 256 c0, .slice A1 32 c1, .slice A2 256 c2, .slice A3 16 c3, .int .i64 m.s]
  | 1, t, _ => t 106 = .pointer (some ⟨bx, 2, none⟩)
  | 2, t, _ => t 107 = .int .i64 x2
  | 3, t, _ => t 108 = .agg #[.int .i64 dn.pc, .int .i64 dn.sp, .int .i64 dn.bank, .int .i64 dn.level, .bool dn.zero, .bool dn.carry, .bool dn.on, .bool dn.halt, .slice A 16 c]
  | 4, t, _ => t 109 = .pointer (some ⟨bx, 1, none⟩)
  | 5, t, _ => t 110 = .int .i64 x1
  | 6, t, _ => t 111 = .int .i64 v
  | 7, t, w => ∃ B0 B1 B2 B3 e0 e1 e2 e3, t 112 = .agg #[.slice B0 256 e0, .slice B1 32 e1, .slice B2 256 e2, .slice B3 16 e3, .int .i64 m2.s] ∧ RepM w B0 B1 B2 B3 m2
  | 8, _, w => ∃ B0 B1 B2 B3 e0 e1 e2 e3, RepM w B0 B1 B2 B3 m2 ∧ Box w bt 31 #[.slice B0 256 e0, .slice B1 32 e1, .slice B2 256 e2, .slice B3 16 e3, .int .i64 m2.s]
  | _, _, _ => True
section
variable {bt bx : Nat} {A A0 A1 A2 A3 : Option Addr} {c c0 c1 c2 c3 : Nat} {dn : CD} {m : MD} {x1 x2 v : Int} {m2 : MD} {w w' : World}
theorem stF8_below (k : Below w.heap.size w w') : ∀ (j : Nat) (t : Nat → Value), stF8 bt bx A A0 A1 A2 A3 c c0 c1 c2 c3 dn m x1 x2 v m2 j t w → stF8 bt bx A A0 A1 A2 A3 c c0 c1 c2 c3 dn m x1 x2 v m2 j t w'
  | 0, _, h | 1, _, h | 2, _, h | 3, _, h | 4, _, h | 5, _, h | 6, _, h => h
  | 7, _, ⟨B0, B1, B2, B3, e0, e1, e2, e3, q, N⟩ => ⟨B0, B1, B2, B3, e0, e1, e2, e3, q, N.below k⟩
  | 8, _, ⟨B0, B1, B2, B3, e0, e1, e2, e3, N, X⟩ => ⟨B0, B1, B2, B3, e0, e1, e2, e3, N.below k, X.step k⟩
  | _ + 9, _, _ => trivial
theorem stF8_store {old : Array Value} (X : Box w bt 31 old) (cs : Array Value) (hs : old.size < 16) : ∀ (j : Nat) (t : Nat → Value), j ≠ 8 → stF8 bt bx A A0 A1 A2 A3 c c0 c1 c2 c3 dn m x1 x2 v m2 j t w → stF8 bt bx A A0 A1 A2 A3 c c0 c1 c2 c3 dn m x1 x2 v m2 j t (w.setRow bt cs)
  | 0, _, _, h | 1, _, _, h | 2, _, _, h | 3, _, _, h | 4, _, _, h | 5, _, _, h | 6, _, _, h => h
  | 7, _, _, ⟨B0, B1, B2, B3, e0, e1, e2, e3, q, N⟩ => ⟨B0, B1, B2, B3, e0, e1, e2, e3, q, N.off X hs (btw_rowS _ _ _)⟩
  | 8, _, n, _ => (n rfl).elim
  | _ + 9, _, _, _ => trivial
end

set_option maxRecDepth 100000 in
set_option maxHeartbeats 8000000 in
theorem l08StepS (A : Option Addr) (c : Nat) (d : CD) (A0 A1 A2 A3 : Option Addr) (c0 c1 c2 c3 : Nat) (m : MD) (w : World) (hc : RepC w A d) (hm : RepM w A0 A1 A2 A3 m) :
    Calls Tryz.prog 27 #[.agg #[.int .i64 d.pc, .int .i64 d.sp, .int .i64 d.bank, .int .i64 d.level, .bool d.zero, .bool d.carry, .bool d.on, .bool d.halt, .slice A 16 c], .agg #[.slice A0 256 c0, .slice A1 32 c1, .slice A2 256 c2, .slice A3 16 c3, .int .i64 m.s]] w (ReadsCMNS (stepD d m) (stepM d m) (stepN d m) (stepS d m) w) := by
  by_cases hh : d.halt = true
  · rw [hh]
    have HH := Lib.hid hh
    obtain ⟨W1, hW1⟩ : ∃ W1, W1 = ((((w.alloc (.cells #[.int .i64 d.pc, .int .i64 d.sp, .int .i64 d.bank, .int .i64 d.level, .bool d.zero, .bool d.carry, .bool d.on, .bool true, .slice A 16 c] 25)).alloc (.cells #[.slice A0 256 c0, .slice A1 32 c1, .slice A2 256 c2, .slice A3 16 c3, .int .i64 m.s] 31)).alloc (.cells #[.int .i64 0, .int .i64 0, .int .i64 0, .int .i64 0, .bool false, .bool false, .bool false, .bool false, .slice none 0 0] 25)).alloc (.cells #[.slice none 0 0, .slice none 0 0, .slice none 0 0, .slice none 0 0, .int .i64 0] 31)) := ⟨_, rfl⟩
    have hb0 : Below w.heap.size w W1 := by rw [hW1]; exact (((((Below.refl _ _).alloc (Nat.le_refl _) _).alloc (by simp; try omega) _).alloc (by simp; try omega) _).alloc (by simp; try omega) _)
    have Z2 : Hid (W1.heap.size = w.heap.size + 4) := Lib.hid (by rw [hW1]; simp)
    have X3 : Hid (Box W1 (w.heap.size) 25 #[.int .i64 d.pc, .int .i64 d.sp, .int .i64 d.bank, .int .i64 d.level, .bool d.zero, .bool d.carry, .bool d.on, .bool true, .slice A 16 c]) := Lib.hid (by rw [hW1]; exact ((((Box.new w 25 #[.int .i64 d.pc, .int .i64 d.sp, .int .i64 d.bank, .int .i64 d.level, .bool d.zero, .bool d.carry, .bool d.on, .bool true, .slice A 16 c]).alloc _).alloc _).alloc _))
    have X4 : Hid (Box W1 (w.heap.size + 1) 31 #[.slice A0 256 c0, .slice A1 32 c1, .slice A2 256 c2, .slice A3 16 c3, .int .i64 m.s]) := Lib.hid (by rw [hW1]; simpa using (((Box.new (w.alloc (.cells #[.int .i64 d.pc, .int .i64 d.sp, .int .i64 d.bank, .int .i64 d.level, .bool d.zero, .bool d.carry, .bool d.on, .bool true, .slice A 16 c] 25)) 31 #[.slice A0 256 c0, .slice A1 32 c1, .slice A2 256 c2, .slice A3 16 c3, .int .i64 m.s]).alloc _).alloc _))
    have X5 : Hid (Box W1 (w.heap.size + 2) 25 #[.int .i64 0, .int .i64 0, .int .i64 0, .int .i64 0, .bool false, .bool false, .bool false, .bool false, .slice none 0 0]) := Lib.hid (by rw [hW1]; simpa using ((Box.new ((w.alloc (.cells #[.int .i64 d.pc, .int .i64 d.sp, .int .i64 d.bank, .int .i64 d.level, .bool d.zero, .bool d.carry, .bool d.on, .bool true, .slice A 16 c] 25)).alloc (.cells #[.slice A0 256 c0, .slice A1 32 c1, .slice A2 256 c2, .slice A3 16 c3, .int .i64 m.s] 31)) 25 #[.int .i64 0, .int .i64 0, .int .i64 0, .int .i64 0, .bool false, .bool false, .bool false, .bool false, .slice none 0 0]).alloc _))
    have X6 : Hid (Box W1 (w.heap.size + 3) 31 #[.slice none 0 0, .slice none 0 0, .slice none 0 0, .slice none 0 0, .int .i64 0]) := Lib.hid (by rw [hW1]; simpa using (Box.new (((w.alloc (.cells #[.int .i64 d.pc, .int .i64 d.sp, .int .i64 d.bank, .int .i64 d.level, .bool d.zero, .bool d.carry, .bool d.on, .bool true, .slice A 16 c] 25)).alloc (.cells #[.slice A0 256 c0, .slice A1 32 c1, .slice A2 256 c2, .slice A3 16 c3, .int .i64 m.s] 31)).alloc (.cells #[.int .i64 0, .int .i64 0, .int .i64 0, .int .i64 0, .bool false, .bool false, .bool false, .bool false, .slice none 0 0] 25)) 31 #[.slice none 0 0, .slice none 0 0, .slice none 0 0, .slice none 0 0, .int .i64 0]))
    have F7 : Hid (RepC W1 A d) := Lib.hid (hc.below hb0)
    have F8 : Hid (RepM W1 A0 A1 A2 A3 m) := Lib.hid (hm.below hb0)
    have HW0 := Lib.hid hW1
    clear hW1
    have HO := Lib.hid hc.1
    have HM := Lib.hid hm.1
    clear hc hm
    have E1 : stepN d m = 4 := by unfold stepN; rw [if_pos hh]
    have E2 : stepD d m = d := by unfold stepD; rw [if_pos hh]
    have E3 : stepM d m = m := by unfold stepM; rw [if_pos hh]
    have E4 : stepS d m = -1 := by unfold stepS; rw [if_pos hh]
    rw [E1, E2, E3, E4]
    clear E1 E2 E3 E4 hh
    go_enter Tryz.func27, Tryz.ntmps27
    go_wp2
    rw [← HW0.out]
    have HK : Hid (∀ W, Box W (w.heap.size) 25 #[.int .i64 d.pc, .int .i64 d.sp, .int .i64 d.bank, .int .i64 d.level, .bool d.zero, .bool d.carry, .bool d.on, .bool true, .slice A 16 c] ∧ Box W (w.heap.size + 1) 31 #[.slice A0 256 c0, .slice A1 32 c1, .slice A2 256 c2, .slice A3 16 c3, .int .i64 m.s] → W.cell? ⟨w.heap.size, 0, none⟩ = some (.int .i64 d.pc) ∧ W.cell? ⟨w.heap.size, 1, none⟩ = some (.int .i64 d.sp) ∧ W.cell? ⟨w.heap.size, 2, none⟩ = some (.int .i64 d.bank) ∧ W.cell? ⟨w.heap.size, 3, none⟩ = some (.int .i64 d.level) ∧ W.cell? ⟨w.heap.size, 4, none⟩ = some (.bool d.zero) ∧ W.cell? ⟨w.heap.size, 5, none⟩ = some (.bool d.carry) ∧ W.cell? ⟨w.heap.size, 6, none⟩ = some (.bool d.on) ∧ W.cell? ⟨w.heap.size, 7, none⟩ = some (.bool true) ∧ W.cell? ⟨w.heap.size, 8, none⟩ = some (.slice A 16 c) ∧ W.cell? ⟨w.heap.size + 1, 0, none⟩ = some (.slice A0 256 c0) ∧ W.cell? ⟨w.heap.size + 1, 1, none⟩ = some (.slice A1 32 c1) ∧ W.cell? ⟨w.heap.size + 1, 2, none⟩ = some (.slice A2 256 c2) ∧ W.cell? ⟨w.heap.size + 1, 3, none⟩ = some (.slice A3 16 c3) ∧ W.cell? ⟨w.heap.size + 1, 4, none⟩ = some (.int .i64 m.s)) := Lib.hid (fun W X => ⟨X.1.cell 0 rfl, X.1.cell 1 rfl, X.1.cell 2 rfl, X.1.cell 3 rfl, X.1.cell 4 rfl, X.1.cell 5 rfl, X.1.cell 6 rfl, X.1.cell 7 rfl, X.1.cell 8 rfl, X.2.cell 0 rfl, X.2.cell 1 rfl, X.2.cell 2 rfl, X.2.cell 3 rfl, X.2.cell 4 rfl⟩)
    obtain ⟨V1, hV1⟩ : ∃ V1, V1 = (((((((((W1.setCell ⟨w.heap.size + 2, 0, none⟩ (.int .i64 d.pc)).setCell ⟨w.heap.size + 2, 1, none⟩ (.int .i64 d.sp)).setCell ⟨w.heap.size + 2, 2, none⟩ (.int .i64 d.bank)).setCell ⟨w.heap.size + 2, 3, none⟩ (.int .i64 d.level)).setCell ⟨w.heap.size + 2, 4, none⟩ (.bool d.zero)).setCell ⟨w.heap.size + 2, 5, none⟩ (.bool d.carry)).setCell ⟨w.heap.size + 2, 6, none⟩ (.bool d.on)).setCell ⟨w.heap.size + 2, 7, none⟩ (.bool true)).setCell ⟨w.heap.size + 2, 8, none⟩ (.slice A 16 c)) := ⟨_, rfl⟩
    have U1 : Btw (w.heap.size + 2) (w.heap.size + 2 + 1) W1 V1 := by rw [hV1]; exact (Btw.refl _ _ _).put.put.put.put.put.put.put.put.put
    obtain ⟨V2, hV2⟩ : ∃ V2, V2 = (((((V1.setCell ⟨w.heap.size + 3, 0, none⟩ (.slice A0 256 c0)).setCell ⟨w.heap.size + 3, 1, none⟩ (.slice A1 32 c1)).setCell ⟨w.heap.size + 3, 2, none⟩ (.slice A2 256 c2)).setCell ⟨w.heap.size + 3, 3, none⟩ (.slice A3 16 c3)).setCell ⟨w.heap.size + 3, 4, none⟩ (.int .i64 m.s)) := ⟨_, rfl⟩
    have U2 : Btw (w.heap.size + 3) (w.heap.size + 3 + 1) V1 V2 := by rw [hV2]; exact (Btw.refl _ _ _).put.put.put.put.put
    have HX0 : Hid (Box W1.drew (w.heap.size) 25 #[.int .i64 d.pc, .int .i64 d.sp, .int .i64 d.bank, .int .i64 d.level, .bool d.zero, .bool d.carry, .bool d.on, .bool true, .slice A 16 c] ∧ Box W1.drew (w.heap.size + 1) 31 #[.slice A0 256 c0, .slice A1 32 c1, .slice A2 256 c2, .slice A3 16 c3, .int .i64 m.s]) := Lib.hid ⟨X3.out.drew, X4.out.drew⟩
    have HX1a : Box V1 (w.heap.size) 25 #[.int .i64 d.pc, .int .i64 d.sp, .int .i64 d.bank, .int .i64 d.level, .bool d.zero, .bool d.carry, .bool d.on, .bool true, .slice A 16 c] ∧ Box V1 (w.heap.size + 1) 31 #[.slice A0 256 c0, .slice A1 32 c1, .slice A2 256 c2, .slice A3 16 c3, .int .i64 m.s] := ⟨X3.out.btw U1 (by have := Z2.out; omega), X4.out.btw U1 (by have := Z2.out; omega)⟩
    have HX2a : Box V2 (w.heap.size) 25 #[.int .i64 d.pc, .int .i64 d.sp, .int .i64 d.bank, .int .i64 d.level, .bool d.zero, .bool d.carry, .bool d.on, .bool true, .slice A 16 c] ∧ Box V2 (w.heap.size + 1) 31 #[.slice A0 256 c0, .slice A1 32 c1, .slice A2 256 c2, .slice A3 16 c3, .int .i64 m.s] := ⟨HX1a.1.btw U2 (by have := Z2.out; omega), HX1a.2.btw U2 (by have := Z2.out; omega)⟩
    have HX1 : Hid (Box ((((((((((W1.setCell ⟨w.heap.size + 2, 0, none⟩ (.int .i64 d.pc)).setCell ⟨w.heap.size + 2, 1, none⟩ (.int .i64 d.sp)).setCell ⟨w.heap.size + 2, 2, none⟩ (.int .i64 d.bank)).setCell ⟨w.heap.size + 2, 3, none⟩ (.int .i64 d.level)).setCell ⟨w.heap.size + 2, 4, none⟩ (.bool d.zero)).setCell ⟨w.heap.size + 2, 5, none⟩ (.bool d.carry)).setCell ⟨w.heap.size + 2, 6, none⟩ (.bool d.on)).setCell ⟨w.heap.size + 2, 7, none⟩ (.bool true)).setCell ⟨w.heap.size + 2, 8, none⟩ (.slice A 16 c)).drew) (w.heap.size) 25 #[.int .i64 d.pc, .int .i64 d.sp, .int .i64 d.bank, .int .i64 d.level, .bool d.zero, .bool d.carry, .bool d.on, .bool true, .slice A 16 c] ∧ Box ((((((((((W1.setCell ⟨w.heap.size + 2, 0, none⟩ (.int .i64 d.pc)).setCell ⟨w.heap.size + 2, 1, none⟩ (.int .i64 d.sp)).setCell ⟨w.heap.size + 2, 2, none⟩ (.int .i64 d.bank)).setCell ⟨w.heap.size + 2, 3, none⟩ (.int .i64 d.level)).setCell ⟨w.heap.size + 2, 4, none⟩ (.bool d.zero)).setCell ⟨w.heap.size + 2, 5, none⟩ (.bool d.carry)).setCell ⟨w.heap.size + 2, 6, none⟩ (.bool d.on)).setCell ⟨w.heap.size + 2, 7, none⟩ (.bool true)).setCell ⟨w.heap.size + 2, 8, none⟩ (.slice A 16 c)).drew) (w.heap.size + 1) 31 #[.slice A0 256 c0, .slice A1 32 c1, .slice A2 256 c2, .slice A3 16 c3, .int .i64 m.s]) := Lib.hid (by rw [← hV1]; exact ⟨HX1a.1.drew, HX1a.2.drew⟩)
    have HX2 : Hid (Box (((((((((((((((W1.setCell ⟨w.heap.size + 2, 0, none⟩ (.int .i64 d.pc)).setCell ⟨w.heap.size + 2, 1, none⟩ (.int .i64 d.sp)).setCell ⟨w.heap.size + 2, 2, none⟩ (.int .i64 d.bank)).setCell ⟨w.heap.size + 2, 3, none⟩ (.int .i64 d.level)).setCell ⟨w.heap.size + 2, 4, none⟩ (.bool d.zero)).setCell ⟨w.heap.size + 2, 5, none⟩ (.bool d.carry)).setCell ⟨w.heap.size + 2, 6, none⟩ (.bool d.on)).setCell ⟨w.heap.size + 2, 7, none⟩ (.bool true)).setCell ⟨w.heap.size + 2, 8, none⟩ (.slice A 16 c)).setCell ⟨w.heap.size + 3, 0, none⟩ (.slice A0 256 c0)).setCell ⟨w.heap.size + 3, 1, none⟩ (.slice A1 32 c1)).setCell ⟨w.heap.size + 3, 2, none⟩ (.slice A2 256 c2)).setCell ⟨w.heap.size + 3, 3, none⟩ (.slice A3 16 c3)).setCell ⟨w.heap.size + 3, 4, none⟩ (.int .i64 m.s)).drew) (w.heap.size) 25 #[.int .i64 d.pc, .int .i64 d.sp, .int .i64 d.bank, .int .i64 d.level, .bool d.zero, .bool d.carry, .bool d.on, .bool true, .slice A 16 c] ∧ Box (((((((((((((((W1.setCell ⟨w.heap.size + 2, 0, none⟩ (.int .i64 d.pc)).setCell ⟨w.heap.size + 2, 1, none⟩ (.int .i64 d.sp)).setCell ⟨w.heap.size + 2, 2, none⟩ (.int .i64 d.bank)).setCell ⟨w.heap.size + 2, 3, none⟩ (.int .i64 d.level)).setCell ⟨w.heap.size + 2, 4, none⟩ (.bool d.zero)).setCell ⟨w.heap.size + 2, 5, none⟩ (.bool d.carry)).setCell ⟨w.heap.size + 2, 6, none⟩ (.bool d.on)).setCell ⟨w.heap.size + 2, 7, none⟩ (.bool true)).setCell ⟨w.heap.size + 2, 8, none⟩ (.slice A 16 c)).setCell ⟨w.heap.size + 3, 0, none⟩ (.slice A0 256 c0)).setCell ⟨w.heap.size + 3, 1, none⟩ (.slice A1 32 c1)).setCell ⟨w.heap.size + 3, 2, none⟩ (.slice A2 256 c2)).setCell ⟨w.heap.size + 3, 3, none⟩ (.slice A3 16 c3)).setCell ⟨w.heap.size + 3, 4, none⟩ (.int .i64 m.s)).drew) (w.heap.size + 1) 31 #[.slice A0 256 c0, .slice A1 32 c1, .slice A2 256 c2, .slice A3 16 c3, .int .i64 m.s]) := Lib.hid (by rw [← hV1, ← hV2]; exact ⟨HX2a.1.drew, HX2a.2.drew⟩)
    have HYa : Hid (Box V1 (w.heap.size + 2) 25 #[.int .i64 d.pc, .int .i64 d.sp, .int .i64 d.bank, .int .i64 d.level, .bool d.zero, .bool d.carry, .bool d.on, .bool true, .slice A 16 c]) := Lib.hid (by rw [hV1]; exact X5.out.allN9 rfl _ _ _ _ _ _ _ _ _)
    have HYb : Hid (Box V1 (w.heap.size + 3) 31 #[.slice none 0 0, .slice none 0 0, .slice none 0 0, .slice none 0 0, .int .i64 0]) := Lib.hid (X6.out.btw U1 (by have := Z2.out; omega))
    have HR1 : Hid (Box V2.drew (w.heap.size + 3) 31 #[.slice A0 256 c0, .slice A1 32 c1, .slice A2 256 c2, .slice A3 16 c3, .int .i64 m.s]) := Lib.hid (by rw [hV2]; exact (HYb.out.allN5 rfl _ _ _ _ _).drew)
    have HR0 : Hid (Box V2.drew (w.heap.size + 2) 25 #[.int .i64 d.pc, .int .i64 d.sp, .int .i64 d.bank, .int .i64 d.level, .bool d.zero, .bool d.carry, .bool d.on, .bool true, .slice A 16 c]) := Lib.hid (HYa.out.btw U2 (by have := Z2.out; omega)).drew
    have hfin : Below w.heap.size w V2.drew := (Btw.lowSize U2 (Btw.lowSize U1 hb0 (Nat.le_of_lt X5.out.lt) (by have := Z2.out; omega)) (Nat.le_of_lt HYb.out.lt) (by have := Z2.out; omega)).drew
    have HV1 := Lib.hid hV1
    have HV2 := Lib.hid hV2
    have HU1 := Lib.hid U1
    have HU2 := Lib.hid U2
    have HYm := Lib.hid HYb.out
    clear hV1 hV2 U1 U2 HX1a HX2a HYa HYb
    have f9 := X5.out.cell 0 rfl
    have f10 := X5.out.cell 1 rfl
    have f11 := X5.out.cell 2 rfl
    have f12 := X5.out.cell 3 rfl
    have f13 := X5.out.cell 4 rfl
    have f14 := X5.out.cell 5 rfl
    have f15 := X5.out.cell 6 rfl
    have f16 := X5.out.cell 7 rfl
    have f17 := X5.out.cell 8 rfl
    have f18 := X6.out.cell 0 rfl
    have f19 := X6.out.cell 1 rfl
    have f20 := X6.out.cell 2 rfl
    have f21 := X6.out.cell 3 rfl
    have f22 := X6.out.cell 4 rfl
    have z23 := X5.out.frozen 0
    have z24 := X5.out.frozen 1
    have z25 := X5.out.frozen 2
    have z26 := X5.out.frozen 3
    have z27 := X5.out.frozen 4
    have z28 := X5.out.frozen 5
    have z29 := X5.out.frozen 6
    have z30 := X5.out.frozen 7
    have z31 := X5.out.frozen 8
    have z32 := X6.out.frozen 0
    have z33 := X6.out.frozen 1
    have z34 := X6.out.frozen 2
    have z35 := X6.out.frozen 3
    have z36 := X6.out.frozen 4
    go_region_held3 (fun W => W.cell? ⟨w.heap.size, 0, none⟩ = some (.int .i64 d.pc) ∧ W.cell? ⟨w.heap.size, 1, none⟩ = some (.int .i64 d.sp) ∧ W.cell? ⟨w.heap.size, 2, none⟩ = some (.int .i64 d.bank) ∧ W.cell? ⟨w.heap.size, 3, none⟩ = some (.int .i64 d.level) ∧ W.cell? ⟨w.heap.size, 4, none⟩ = some (.bool d.zero) ∧ W.cell? ⟨w.heap.size, 5, none⟩ = some (.bool d.carry) ∧ W.cell? ⟨w.heap.size, 6, none⟩ = some (.bool d.on) ∧ W.cell? ⟨w.heap.size, 7, none⟩ = some (.bool true) ∧ W.cell? ⟨w.heap.size, 8, none⟩ = some (.slice A 16 c) ∧ W.cell? ⟨w.heap.size + 1, 0, none⟩ = some (.slice A0 256 c0) ∧ W.cell? ⟨w.heap.size + 1, 1, none⟩ = some (.slice A1 32 c1) ∧ W.cell? ⟨w.heap.size + 1, 2, none⟩ = some (.slice A2 256 c2) ∧ W.cell? ⟨w.heap.size + 1, 3, none⟩ = some (.slice A3 16 c3) ∧ W.cell? ⟨w.heap.size + 1, 4, none⟩ = some (.int .i64 m.s))
      (first | (with_reducible exact HK.out _ HX0.out) | (with_reducible exact HK.out _ HX1.out) | (with_reducible exact HK.out _ HX2.out))
      (fail)
    go_wp2
    rw [← HV1.out, ← HV2.out]
    have r0 := HR0.out
    have r1 := HR1.out
    have s0 := r0.cell 0 rfl
    have s1 := r0.cell 1 rfl
    have s2 := r0.cell 2 rfl
    have s3 := r0.cell 3 rfl
    have s4 := r0.cell 4 rfl
    have s5 := r0.cell 5 rfl
    have s6 := r0.cell 6 rfl
    have s7 := r0.cell 7 rfl
    have s8 := r0.cell 8 rfl
    have t0 := r1.cell 0 rfl
    have t1 := r1.cell 1 rfl
    have t2 := r1.cell 2 rfl
    have t3 := r1.cell 3 rfl
    have t4 := r1.cell 4 rfl
    refine bodyPost_ret (v := .tuple #[.agg #[.int .i64 d.pc, .int .i64 d.sp, .int .i64 d.bank, .int .i64 d.level, .bool d.zero, .bool d.carry, .bool d.on, .bool true, .slice A 16 c], .agg #[.slice A0 256 c0, .slice A1 32 c1, .slice A2 256 c2, .slice A3 16 c3, .int .i64 m.s], .int .i64 4, .int .i64 (-1)]) (by simp [results, Tryz.results27, go_sem, s0, s1, s2, s3, s4, s5, s6, s7, s8, t0, t1, t2, t3, t4]) rfl ?_
    exact ⟨A, c, A0, A1, A2, A3, c0, c1, c2, c3, by rw [HH.out], Lib.hid (((F7.out.off X5.out (by simp) HU1.out).off HYm.out (by simp) HU2.out).below (Below.refl _ _).drew), Lib.hid (((F8.out.off X5.out (by simp) HU1.out).off HYm.out (by simp) HU2.out).below (Below.refl _ _).drew), hfin⟩
  · have hh : d.halt = false := by simpa using hh
    rw [hh]
    have HH := Lib.hid hh
    obtain ⟨W1, hW1⟩ : ∃ W1, W1 = ((((w.alloc (.cells #[.int .i64 d.pc, .int .i64 d.sp, .int .i64 d.bank, .int .i64 d.level, .bool d.zero, .bool d.carry, .bool d.on, .bool false, .slice A 16 c] 25)).alloc (.cells #[.slice A0 256 c0, .slice A1 32 c1, .slice A2 256 c2, .slice A3 16 c3, .int .i64 m.s] 31)).alloc (.cells #[.int .i64 0, .int .i64 0, .int .i64 0, .int .i64 0, .bool false, .bool false, .bool false, .bool false, .slice none 0 0] 25)).alloc (.cells #[.slice none 0 0, .slice none 0 0, .slice none 0 0, .slice none 0 0, .int .i64 0] 31)) := ⟨_, rfl⟩
    have hb0 : Below w.heap.size w W1 := by rw [hW1]; exact (((((Below.refl _ _).alloc (Nat.le_refl _) _).alloc (by simp; try omega) _).alloc (by simp; try omega) _).alloc (by simp; try omega) _)
    have Z2 : Hid (W1.heap.size = w.heap.size + 4) := Lib.hid (by rw [hW1]; simp)
    have X3 : Hid (Box W1 (w.heap.size) 25 #[.int .i64 d.pc, .int .i64 d.sp, .int .i64 d.bank, .int .i64 d.level, .bool d.zero, .bool d.carry, .bool d.on, .bool false, .slice A 16 c]) := Lib.hid (by rw [hW1]; exact ((((Box.new w 25 #[.int .i64 d.pc, .int .i64 d.sp, .int .i64 d.bank, .int .i64 d.level, .bool d.zero, .bool d.carry, .bool d.on, .bool false, .slice A 16 c]).alloc _).alloc _).alloc _))
    have X4 : Hid (Box W1 (w.heap.size + 1) 31 #[.slice A0 256 c0, .slice A1 32 c1, .slice A2 256 c2, .slice A3 16 c3, .int .i64 m.s]) := Lib.hid (by rw [hW1]; simpa using (((Box.new (w.alloc (.cells #[.int .i64 d.pc, .int .i64 d.sp, .int .i64 d.bank, .int .i64 d.level, .bool d.zero, .bool d.carry, .bool d.on, .bool false, .slice A 16 c] 25)) 31 #[.slice A0 256 c0, .slice A1 32 c1, .slice A2 256 c2, .slice A3 16 c3, .int .i64 m.s]).alloc _).alloc _))
    have X5 : Hid (Box W1 (w.heap.size + 2) 25 #[.int .i64 0, .int .i64 0, .int .i64 0, .int .i64 0, .bool false, .bool false, .bool false, .bool false, .slice none 0 0]) := Lib.hid (by rw [hW1]; simpa using ((Box.new ((w.alloc (.cells #[.int .i64 d.pc, .int .i64 d.sp, .int .i64 d.bank, .int .i64 d.level, .bool d.zero, .bool d.carry, .bool d.on, .bool false, .slice A 16 c] 25)).alloc (.cells #[.slice A0 256 c0, .slice A1 32 c1, .slice A2 256 c2, .slice A3 16 c3, .int .i64 m.s] 31)) 25 #[.int .i64 0, .int .i64 0, .int .i64 0, .int .i64 0, .bool false, .bool false, .bool false, .bool false, .slice none 0 0]).alloc _))
    have X6 : Hid (Box W1 (w.heap.size + 3) 31 #[.slice none 0 0, .slice none 0 0, .slice none 0 0, .slice none 0 0, .int .i64 0]) := Lib.hid (by rw [hW1]; simpa using (Box.new (((w.alloc (.cells #[.int .i64 d.pc, .int .i64 d.sp, .int .i64 d.bank, .int .i64 d.level, .bool d.zero, .bool d.carry, .bool d.on, .bool false, .slice A 16 c] 25)).alloc (.cells #[.slice A0 256 c0, .slice A1 32 c1, .slice A2 256 c2, .slice A3 16 c3, .int .i64 m.s] 31)).alloc (.cells #[.int .i64 0, .int .i64 0, .int .i64 0, .int .i64 0, .bool false, .bool false, .bool false, .bool false, .slice none 0 0] 25)) 31 #[.slice none 0 0, .slice none 0 0, .slice none 0 0, .slice none 0 0, .int .i64 0]))
    have F7 : Hid (RepC W1 A d) := Lib.hid (hc.below hb0)
    have F8 : Hid (RepM W1 A0 A1 A2 A3 m) := Lib.hid (hm.below hb0)
    have HW0 := Lib.hid hW1
    clear hW1
    have E1 : stepN d m = cycT (fetchF d m).1 := by unfold stepN; rw [hh]; rfl
    have E2 : stepD d m = execD (nextD d m) m (fetchF d m).1 (fetchF d m).2.1 (fetchF d m).2.2 := by unfold stepD; rw [hh]; rfl
    have E3 : stepM d m = execM (nextD d m) m (fetchF d m).1 (fetchF d m).2.1 (fetchF d m).2.2 := by unfold stepM; rw [hh]; rfl
    have E4 : stepS d m = execS (fetchF d m).1 (fetchF d m).2.2 := by unfold stepS; rw [hh]; rfl
    rw [E1, E2, E3, E4]
    have hO := hc.1
    have hMo := hm.1
    have hpc := hO.pc
    have hI := fetch_ok d m
    have hn := hO.next m
    have hN : nextD d m = d.at ((d.pc + lenT (fetchF d m).1) % 4096) := rfl
    have hF : fetchF d m = decV (m.get d.pc) (m.get ((d.pc + 1) % 4096)) (m.get ((d.pc + 2) % 4096)) := rfl
    have r0 := hMo.get d.pc hpc.1 hpc.2
    have r1 := hMo.get ((d.pc + 1) % 4096) (by omega) (by omega)
    have r2 := hMo.get ((d.pc + 2) % 4096) (by omega) (by omega)
    have HG1 := Lib.hid (fun W (q : RepM W A0 A1 A2 A3 m) => l05GetM A0 A1 A2 A3 c0 c1 c2 c3 m W d.pc hpc.1 hpc.2 q)
    have HG2 := Lib.hid (fun W (q : RepM W A0 A1 A2 A3 m) => l05GetM A0 A1 A2 A3 c0 c1 c2 c3 m W ((d.pc + 1) % 4096) (by omega) (by omega) q)
    have HG3 := Lib.hid (fun W (q : RepM W A0 A1 A2 A3 m) => l05GetM A0 A1 A2 A3 c0 c1 c2 c3 m W ((d.pc + 2) % 4096) (by omega) (by omega) q)
    generalize m.get d.pc = v0 at r0 HG1 hF
    generalize m.get ((d.pc + 1) % 4096) = v1 at r1 HG2 hF
    generalize m.get ((d.pc + 2) % 4096) = v2 at r2 HG3 hF
    have HD := Lib.hid (fun W => l07DecodeS v0 v1 v2 W r0.1 r0.2 r1.1 r1.2 r2.1 r2.2)
    rw [← hF] at HD
    generalize nextD d m = dn at hn hN ⊢
    generalize fetchF d m = x at hI HD hN ⊢
    obtain ⟨x0, x1, x2⟩ := x
    simp only at hI HD hN ⊢
    obtain ⟨dF, hdF⟩ : ∃ dF, dF = execD dn m x0 x1 x2 := ⟨_, rfl⟩
    obtain ⟨mF, hmF⟩ : ∃ mF, mF = execM dn m x0 x1 x2 := ⟨_, rfl⟩
    obtain ⟨sF, hsF⟩ : ∃ sF, sF = execS x0 x2 := ⟨_, rfl⟩
    rw [← hdF, ← hmF, ← hsF]
    have HF := Lib.hid (And.intro hdF (And.intro hmF hsF))
    clear hdF hmF hsF
    have ho := hI.ho
    have hpl := lenS_in x0
    have e1 : IntKind.i64.wrap (d.pc + 1) = d.pc + 1 := IntWalk.i64_in _ (by omega)
    have e2 : (d.pc + 1).tmod 4096 = (d.pc + 1) % 4096 := Int.tmod_eq_emod_of_nonneg (by omega)
    have e3 : IntKind.i64.wrap (d.pc + 2) = d.pc + 2 := IntWalk.i64_in _ (by omega)
    have e4 : (d.pc + 2).tmod 4096 = (d.pc + 2) % 4096 := Int.tmod_eq_emod_of_nonneg (by omega)
    have HE5 : Hid (IntKind.i64.wrap (d.pc + lenT x0) = d.pc + lenT x0) := Lib.hid (IntWalk.i64_in _ (by omega))
    have HE6 : Hid ((d.pc + lenT x0).tmod 4096 = (d.pc + lenT x0) % 4096) := Lib.hid (Int.tmod_eq_emod_of_nonneg (by omega))
    have HN := Lib.hid hN
    have HI := Lib.hid hI
    have HO := Lib.hid hO
    have Hn := Lib.hid hn
    have HM := Lib.hid hMo
    clear E1 E2 E3 E4 hh hc hm hO hMo hpc hI hn hN hF r0 r1 r2 ho hpl
    go_enter Tryz.func27, Tryz.ntmps27
    go_wp2
    rw [← HW0.out]
    have HK : Hid (∀ W, Below W1.heap.size W1 W → W.cell? ⟨w.heap.size, 0, none⟩ = some (.int .i64 d.pc) ∧ W.cell? ⟨w.heap.size + 1, 0, none⟩ = some (.slice A0 256 c0) ∧ W.cell? ⟨w.heap.size + 1, 1, none⟩ = some (.slice A1 32 c1) ∧ W.cell? ⟨w.heap.size + 1, 2, none⟩ = some (.slice A2 256 c2) ∧ W.cell? ⟨w.heap.size + 1, 3, none⟩ = some (.slice A3 16 c3) ∧ W.cell? ⟨w.heap.size + 1, 4, none⟩ = some (.int .i64 m.s)) := Lib.hid (fun W q => ⟨(X3.out.step q).cell 0 rfl, (X4.out.step q).cell 0 rfl, (X4.out.step q).cell 1 rfl, (X4.out.step q).cell 2 rfl, (X4.out.step q).cell 3 rfl, (X4.out.step q).cell 4 rfl⟩)
    have b0 : Below W1.heap.size W1 W1.drew := (Below.refl _ _).drew
    have HFM : Hid (∀ W, Below W1.heap.size W1 W → RepM W A0 A1 A2 A3 m) := Lib.hid (fun W q => F8.out.below q)
    go_cut [8] from 13 to 33 (fun s wx => GInstr W1 x0 x1 x2 s wx)
    case first =>
      go_region_held3 (fun W => W.cell? ⟨w.heap.size, 0, none⟩ = some (.int .i64 d.pc) ∧ W.cell? ⟨w.heap.size + 1, 0, none⟩ = some (.slice A0 256 c0) ∧ W.cell? ⟨w.heap.size + 1, 1, none⟩ = some (.slice A1 32 c1) ∧ W.cell? ⟨w.heap.size + 1, 2, none⟩ = some (.slice A2 256 c2) ∧ W.cell? ⟨w.heap.size + 1, 3, none⟩ = some (.slice A3 16 c3) ∧ W.cell? ⟨w.heap.size + 1, 4, none⟩ = some (.int .i64 m.s))
        (first | exact HK.out _ b5 | exact HK.out _ (bt b5 (alloc_below _ _)) | exact HK.out _ b4 | exact HK.out _ (bt b4 (alloc_below _ _)) | exact HK.out _ b3 | exact HK.out _ (bt b3 (alloc_below _ _)) | exact HK.out _ b2 | exact HK.out _ (bt b2 (alloc_below _ _)) | exact HK.out _ b0 | exact HK.out _ (bt b0 (alloc_below _ _)) | exact HK.out _ (((b5.setCell HS.out _).setCell HS.out _).setCell HS.out _))
        (first | (go_at_call 59; have _u := b4; clear _u; refine (HD.out _).mono ?_; rintro e w5 ⟨rfl, q5⟩; have b5 : Below W1.heap.size W1 w5 := (by first | exact bt b4 q5 | exact bt (bt b4 (alloc_below _ _)) q5); (first | (have XB := Lib.hid (XB.out.step q5)) | (have XB : Hid (Box w5 w4.heap.size 82 #[.int .i64 0, .int .i64 0, .int .i64 0]) := Lib.hid ((Box.new w4 82 #[.int .i64 0, .int .i64 0, .int .i64 0]).step q5); have HS : Hid (W1.heap.size ≤ w4.heap.size) := Lib.hid b4.size) | skip); (first | (have s0 := XB.out.cell 0 rfl; have s1 := XB.out.cell 1 rfl; have s2 := XB.out.cell 2 rfl; have z0 := XB.out.frozen 0; have z1 := XB.out.frozen 1; have z2 := XB.out.frozen 2) | skip)) | (go_at_call 60; have _u := b3; clear _u; refine (HG3.out _ (HFM.out _ (by first | exact b3 | exact bt b3 (alloc_below _ _)))).mono ?_; rintro e w4 ⟨rfl, q4⟩; have b4 : Below W1.heap.size W1 w4 := (by first | exact bt b3 q4 | exact bt (bt b3 (alloc_below _ _)) q4); (first | (have XB := Lib.hid (XB.out.step q4)) | (have XB : Hid (Box w4 w3.heap.size 82 #[.int .i64 0, .int .i64 0, .int .i64 0]) := Lib.hid ((Box.new w3 82 #[.int .i64 0, .int .i64 0, .int .i64 0]).step q4); have HS : Hid (W1.heap.size ≤ w3.heap.size) := Lib.hid b3.size) | skip)) | (go_at_call 60; have _u := b2; clear _u; refine (HG2.out _ (HFM.out _ (by first | exact b2 | exact bt b2 (alloc_below _ _)))).mono ?_; rintro e w3 ⟨rfl, q3⟩; have b3 : Below W1.heap.size W1 w3 := (by first | exact bt b2 q3 | exact bt (bt b2 (alloc_below _ _)) q3); (first | (have XB := Lib.hid (XB.out.step q3)) | (have XB : Hid (Box w3 w2.heap.size 82 #[.int .i64 0, .int .i64 0, .int .i64 0]) := Lib.hid ((Box.new w2 82 #[.int .i64 0, .int .i64 0, .int .i64 0]).step q3); have HS : Hid (W1.heap.size ≤ w2.heap.size) := Lib.hid b2.size) | skip)) | (go_at_call 60; refine (HG1.out _ (HFM.out _ (by first | exact b0 | exact bt b0 (alloc_below _ _)))).mono ?_; rintro e w2 ⟨rfl, q2⟩; have b2 : Below W1.heap.size W1 w2 := (by first | exact bt b0 q2 | exact bt (bt b0 (alloc_below _ _)) q2); (first | (have XB := Lib.hid (XB.out.step q2)) | (have XB : Hid (Box w2 W1.heap.size 82 #[.int .i64 0, .int .i64 0, .int .i64 0]) := Lib.hid ((Box.new W1.drew 82 #[.int .i64 0, .int .i64 0, .int .i64 0]).step q2); have HS : Hid (W1.heap.size ≤ W1.heap.size) := Lib.hid b0.size) | skip)))
      all_goals (go_wp2_with fail; go_meet)
      all_goals (first
        | exact ⟨_, rfl, Lib.hid (bt b5 (alloc_below _ _)), Lib.hid (Box.new _ _ _), Lib.hid b5.size⟩
        | exact ⟨_, rfl, Lib.hid (((b5.setCell (p := ⟨_, 0, none⟩) HS.out _).setCell (p := ⟨_, 1, none⟩) HS.out _).setCell (p := ⟨_, 2, none⟩) HS.out _), Lib.hid (((XB.out.set 0 _).set 1 _).set 2 _), HS⟩)
    case rest =>
      obtain ⟨bx, rfl, BX, XX, SX⟩ := hcut
      have hcX := BX.out
      clear HK b0 HFM HW0 HG1 HG2 HG3 HD e1 e2 e3 e4 BX
      have X9 := Lib.hid (X3.out.step hcX)
      have X10 := Lib.hid (X4.out.step hcX)
      have X11 := Lib.hid (X5.out.step hcX)
      have X12 := Lib.hid (X6.out.step hcX)
      have F13 := Lib.hid (F7.out.below hcX)
      have F14 := Lib.hid (F8.out.below hcX)
      have hb15 := bt hb0 hcX
      have Z16 : Hid (W1.heap.size ≤ wc.heap.size) := Lib.hid hcX.size
      clear X3 X4 X5 X6 F7 F8 hb0 hcX
      have f17 := X9.out.cell 0 rfl
      have f18 := X9.out.cell 1 rfl
      have f19 := X9.out.cell 2 rfl
      have f20 := X9.out.cell 3 rfl
      have f21 := X9.out.cell 4 rfl
      have f22 := X9.out.cell 5 rfl
      have f23 := X9.out.cell 6 rfl
      have f24 := X9.out.cell 7 rfl
      have f25 := X9.out.cell 8 rfl
      have f26 := XX.out.cell 0 rfl
      have f27 := XX.out.cell 1 rfl
      have f28 := XX.out.cell 2 rfl
      have z29 := X9.out.frozen 0
      have z30 := X9.out.frozen 1
      have z31 := X9.out.frozen 2
      have z32 := X9.out.frozen 3
      have z33 := X9.out.frozen 4
      have z34 := X9.out.frozen 5
      have z35 := X9.out.frozen 6
      have z36 := X9.out.frozen 7
      have z37 := X9.out.frozen 8
      go_wp2_with (first | (go_at_call 61; refine (l07CyclesA _ _).mono ?_; rintro e w' ⟨rfl, rfl⟩))
      have e5 := HE5.out
      have e6 := HE6.out
      refine wp_region_still_tail 8 (by kernel_rfl) (by kernel_rfl) ?_
      simp only [List.take_succ_cons, List.take_zero, List.drop_succ_cons, List.drop_zero]
      repeat still_step
      still_call ((l07LengthA x0 _).mono fun _ _ ⟨q1, q2⟩ => ⟨q1, q2.symm⟩)
      repeat still_step
      refine wpStill_nil ?_
      change wpList _ _ _ _ _ wc.drew
      go_upto_region 6 with fail
      obtain ⟨W38, hW38⟩ : ∃ W38, W38 = (wc.setCell ⟨w.heap.size, 0, none⟩ (.int .i64 ((d.pc + lenT x0) % 4096))) := ⟨_, rfl⟩
      have hB39 : Btw (w.heap.size) (w.heap.size + 1) wc W38 := by rw [hW38]; exact (Btw.refl _ _ _).put
      have X40 : Hid (Box W38 (w.heap.size) 25 #[.int .i64 ((d.pc + lenT x0) % 4096), .int .i64 d.sp, .int .i64 d.bank, .int .i64 d.level, .bool d.zero, .bool d.carry, .bool d.on, .bool false, .slice A 16 c]) := Lib.hid (by rw [hW38]; exact (X9.out.set 0 _))
      have X41 := Lib.hid (X10.out.btw hB39 (by have := Z2.out; have := SX.out; have := Z16.out; omega))
      have X42 := Lib.hid (X11.out.btw hB39 (by have := Z2.out; have := SX.out; have := Z16.out; omega))
      have X43 := Lib.hid (X12.out.btw hB39 (by have := Z2.out; have := SX.out; have := Z16.out; omega))
      have X44 := Lib.hid (XX.out.btw hB39 (by have := Z2.out; have := SX.out; have := Z16.out; omega))
      have F45 := Lib.hid (F13.out.off X9.out (by simp) hB39)
      have F46 := Lib.hid (F14.out.off X9.out (by simp) hB39)
      have hb47 := Btw.lowSize hB39 hb15 (Nat.le_of_lt X9.out.lt) (by have := Z2.out; have := SX.out; have := Z16.out; omega)
      have Z48 : Hid (wc.heap.size ≤ W38.heap.size) := Lib.hid hB39.size
      rw [← hW38]
      clear hW38 hB39 X9 X10 X11 X12 XX F13 F14 hb15
      clear f17 f18 f19 f20 f21 f22 f23 f24 f25 f26 f27 f28 z29 z30 z31 z32 z33 z34 z35 z36 z37
      obtain ⟨Wd, hWd⟩ : ∃ Wd, Wd = W38.drew := ⟨_, rfl⟩
      have hqd : Below W38.heap.size W38 Wd := by rw [hWd]; exact (Below.refl _ _).drew
      rw [← hWd]
      clear hWd e5 e6
      have X49 := Lib.hid (X40.out.step hqd)
      have X50 := Lib.hid (X41.out.step hqd)
      have X51 := Lib.hid (X42.out.step hqd)
      have X52 := Lib.hid (X43.out.step hqd)
      have X53 := Lib.hid (X44.out.step hqd)
      have F54 := Lib.hid (F45.out.below hqd)
      have F55 := Lib.hid (F46.out.below hqd)
      have hb56 := bt hb47 hqd
      have Z57 : Hid (W38.heap.size ≤ Wd.heap.size) := Lib.hid hqd.size
      clear X40 X41 X42 X43 X44 F45 F46 hb47 hqd
      have NC : Hid (RepC Wd A dn) := Lib.hid ⟨Hn.out, by rw [HN.out]; exact F54.out.2⟩
      have XN : Hid (Box Wd (w.heap.size) 25 #[.int .i64 dn.pc, .int .i64 dn.sp, .int .i64 dn.bank, .int .i64 dn.level, .bool dn.zero, .bool dn.carry, .bool dn.on, .bool dn.halt, .slice A 16 c]) := Lib.hid (by rw [HN.out]; have q := X49.out; rw [← HH.out] at q; exact q)
      clear X49 F54 HN HE5 HE6
      have f58 := X53.out.cell 0 rfl
      have f59 := X53.out.cell 1 rfl
      have f60 := X53.out.cell 2 rfl
      go_upto_block 0 with fail
      clear f58 f59 f60
      go_cut [10] from 11 to 164 (fun s wx => GSw w dF mF sF s wx)
      case first =>
        have ho := HI.out.ho
        have hr := HI.out.hr
        have ha := HI.out.ha
        have hy := HI.out.hy
        have hb3 := HI.out.hb
        have hO := Hn.out
        have hMo := HM.out
        have hi0 := HI.out
        clear Hn HM HO HH hh
        rcases ops23 ho with rfl | rfl | rfl | rfl | rfl | rfl | rfl | rfl | rfl | rfl | rfl | rfl | rfl | rfl | rfl | rfl | rfl | rfl | rfl | rfl | rfl | rfl | rfl
        · go_wp2_with fail
          go_meet
          obtain ⟨g1, g2, g3⟩ := HF.out
          rw [g1, g2, g3]
          exact ⟨A, c, A0, A1, A2, A3, c0, c1, c2, c3, rfl, Lib.hid hb56, XN, X50, X51, X52, NC, F55⟩
        · have f61 := XN.out.cell 0 rfl
          have f62 := XN.out.cell 1 rfl
          have f63 := XN.out.cell 2 rfl
          have f64 := XN.out.cell 3 rfl
          have f65 := XN.out.cell 4 rfl
          have f66 := XN.out.cell 5 rfl
          have f67 := XN.out.cell 6 rfl
          have f68 := XN.out.cell 7 rfl
          have f69 := XN.out.cell 8 rfl
          have f70 := X53.out.cell 0 rfl
          have f71 := X53.out.cell 1 rfl
          have f72 := X53.out.cell 2 rfl
          have z73 := XN.out.frozen 0
          have z74 := XN.out.frozen 1
          have z75 := XN.out.frozen 2
          have z76 := XN.out.frozen 3
          have z77 := XN.out.frozen 4
          have z78 := XN.out.frozen 5
          have z79 := XN.out.frozen 6
          have z80 := XN.out.frozen 7
          have z81 := XN.out.frozen 8
          go_wp2_with fail
          go_meet
          obtain ⟨W82, hW82⟩ : ∃ W82, W82 = (Wd.setCell ⟨w.heap.size, 7, none⟩ (.bool true)) := ⟨_, rfl⟩
          have hB83 : Btw (w.heap.size) (w.heap.size + 1) Wd W82 := by rw [hW82]; exact (Btw.refl _ _ _).put
          have X84 : Hid (Box W82 (w.heap.size) 25 #[.int .i64 dn.pc, .int .i64 dn.sp, .int .i64 dn.bank, .int .i64 dn.level, .bool dn.zero, .bool dn.carry, .bool dn.on, .bool true, .slice A 16 c]) := Lib.hid (by rw [hW82]; exact (XN.out.set 7 _))
          have X85 := Lib.hid (X50.out.btw hB83 (by have := Z2.out; have := SX.out; have := Z16.out; have := Z48.out; have := Z57.out; omega))
          have X86 := Lib.hid (X51.out.btw hB83 (by have := Z2.out; have := SX.out; have := Z16.out; have := Z48.out; have := Z57.out; omega))
          have X87 := Lib.hid (X52.out.btw hB83 (by have := Z2.out; have := SX.out; have := Z16.out; have := Z48.out; have := Z57.out; omega))
          have X88 := Lib.hid (X53.out.btw hB83 (by have := Z2.out; have := SX.out; have := Z16.out; have := Z48.out; have := Z57.out; omega))
          have F89 := Lib.hid (NC.out.off XN.out (by simp) hB83)
          have F90 := Lib.hid (F55.out.off XN.out (by simp) hB83)
          have hb91 := Btw.lowSize hB83 hb56 (Nat.le_of_lt XN.out.lt) (by have := Z2.out; have := SX.out; have := Z16.out; have := Z48.out; have := Z57.out; omega)
          have Z92 : Hid (Wd.heap.size ≤ W82.heap.size) := Lib.hid hB83.size
          rw [← hW82]
          clear hW82 hB83 XN X50 X51 X52 X53 NC F55 hb56
          obtain ⟨g1, g2, g3⟩ := HF.out
          rw [g1, g2, g3]
          exact ⟨A, c, A0, A1, A2, A3, c0, c1, c2, c3, rfl, Lib.hid hb91, X84, X85, X86, X87, Lib.hid ⟨hO.exec (m := m) hi0, F89.out.2⟩, F90⟩
        · have hv0 := hMo.get ((dn.sp + 1) % 256) (by omega) (by omega)
          have HP := Lib.hid (fun W (q : RepC W A dn) (r : RepM W A0 A1 A2 A3 m) => l08PullS A c dn A0 A1 A2 A3 c0 c1 c2 c3 m W q r)
          have HBk := Lib.hid (fun Aa ca W (q : RepC W Aa dn.up) (r : RepM W A0 A1 A2 A3 m) => l08BackS Aa ca dn.up A0 A1 A2 A3 c0 c1 c2 c3 m W q r)
          have HFl := Lib.hid (fun Ab cb W (q : RepC W Ab (backD dn.up m)) => l08ToFlagsS Ab cb (backD dn.up m) (m.get ((dn.sp + 1) % 256)) W hv0 q)
          unfold ReadsCI at HP
          unfold ReadsC at HBk HFl
          have h1 : dF = (backD dn.up m).toFlags (m.get ((dn.sp + 1) % 256)) := HF.out.1
          rw [← h1] at HFl
          clear h1 hv0
          generalize m.get ((dn.sp + 1) % 256) = v at HP HFl
          generalize backD dn.up m = d3 at HBk HFl
          generalize dn.up = d2 at HP HBk
          have f61 := XN.out.cell 0 rfl
          have f62 := XN.out.cell 1 rfl
          have f63 := XN.out.cell 2 rfl
          have f64 := XN.out.cell 3 rfl
          have f65 := XN.out.cell 4 rfl
          have f66 := XN.out.cell 5 rfl
          have f67 := XN.out.cell 6 rfl
          have f68 := XN.out.cell 7 rfl
          have f69 := XN.out.cell 8 rfl
          have f70 := X50.out.cell 0 rfl
          have f71 := X50.out.cell 1 rfl
          have f72 := X50.out.cell 2 rfl
          have f73 := X50.out.cell 3 rfl
          have f74 := X50.out.cell 4 rfl
          go_wp2_with fail
          clear f61 f62 f63 f64 f65 f66 f67 f68 f69 f70 f71 f72 f73 f74
          refine (HP.out _ NC.out F55.out).mono ?_
          rintro e w3 ⟨Aa, ca, rfl, N1, hq3⟩
          have X75 := Lib.hid (XN.out.step hq3)
          have X76 := Lib.hid (X50.out.step hq3)
          have X77 := Lib.hid (X51.out.step hq3)
          have X78 := Lib.hid (X52.out.step hq3)
          have X79 := Lib.hid (X53.out.step hq3)
          have F80 := Lib.hid (NC.out.below hq3)
          have F81 := Lib.hid (F55.out.below hq3)
          have hb82 := bt hb56 hq3
          have Z83 : Hid (Wd.heap.size ≤ w3.heap.size) := Lib.hid hq3.size
          clear XN X50 X51 X52 X53 NC F55 hb56 hq3
          clear F80 HP
          go_upto_region 14 with fail
          obtain ⟨V, hV⟩ : ∃ V, V = w3.alloc (.cells #[.int .i64 d2.pc, .int .i64 d2.sp, .int .i64 d2.bank, .int .i64 d2.level, .bool d2.zero, .bool d2.carry, .bool d2.on, .bool d2.halt, .slice Aa 16 ca] 25) := ⟨_, rfl⟩
          have hqV : Below w3.heap.size w3 V := by rw [hV]; exact alloc_below _ _
          have XY : Hid (Box V w3.heap.size 25 #[.int .i64 d2.pc, .int .i64 d2.sp, .int .i64 d2.bank, .int .i64 d2.level, .bool d2.zero, .bool d2.carry, .bool d2.on, .bool d2.halt, .slice Aa 16 ca]) := Lib.hid (by rw [hV]; exact Box.new _ _ _)
          rw [← hV]
          clear hV
          have X84 := Lib.hid (X75.out.step hqV)
          have X85 := Lib.hid (X76.out.step hqV)
          have X86 := Lib.hid (X77.out.step hqV)
          have X87 := Lib.hid (X78.out.step hqV)
          have X88 := Lib.hid (X79.out.step hqV)
          have F89 := Lib.hid (N1.out.below hqV)
          have F90 := Lib.hid (F81.out.below hqV)
          have hb91 := bt hb82 hqV
          have Z92 : Hid (w3.heap.size ≤ V.heap.size) := Lib.hid hqV.size
          clear X75 X76 X77 X78 X79 N1 F81 hb82 hqV
          have f93 := XY.out.cell 0 rfl
          have f94 := XY.out.cell 1 rfl
          have f95 := XY.out.cell 2 rfl
          have f96 := XY.out.cell 3 rfl
          have f97 := XY.out.cell 4 rfl
          have f98 := XY.out.cell 5 rfl
          have f99 := XY.out.cell 6 rfl
          have f100 := XY.out.cell 7 rfl
          have f101 := XY.out.cell 8 rfl
          have f102 := X85.out.cell 0 rfl
          have f103 := X85.out.cell 1 rfl
          have f104 := X85.out.cell 2 rfl
          have f105 := X85.out.cell 3 rfl
          have f106 := X85.out.cell 4 rfl
          go_wp2_with fail
          clear f93 f94 f95 f96 f97 f98 f99 f100 f101 f102 f103 f104 f105 f106
          refine (HBk.out _ _ _ F89.out F90.out).mono ?_
          rintro e w4 ⟨Ab, cb, rfl, N2, hq4⟩
          clear XY
          have X107 := Lib.hid (X84.out.step hq4)
          have X108 := Lib.hid (X85.out.step hq4)
          have X109 := Lib.hid (X86.out.step hq4)
          have X110 := Lib.hid (X87.out.step hq4)
          have X111 := Lib.hid (X88.out.step hq4)
          have F112 := Lib.hid (F89.out.below hq4)
          have F113 := Lib.hid (F90.out.below hq4)
          have hb114 := bt hb91 hq4
          have Z115 : Hid (V.heap.size ≤ w4.heap.size) := Lib.hid hq4.size
          clear X84 X85 X86 X87 X88 F89 F90 hb91 hq4
          clear F112 HBk
          have f116 := X107.out.cell 0 rfl
          have f117 := X107.out.cell 1 rfl
          have f118 := X107.out.cell 2 rfl
          have f119 := X107.out.cell 3 rfl
          have f120 := X107.out.cell 4 rfl
          have f121 := X107.out.cell 5 rfl
          have f122 := X107.out.cell 6 rfl
          have f123 := X107.out.cell 7 rfl
          have f124 := X107.out.cell 8 rfl
          have z125 := X107.out.frozen 0
          have z126 := X107.out.frozen 1
          have z127 := X107.out.frozen 2
          have z128 := X107.out.frozen 3
          have z129 := X107.out.frozen 4
          have z130 := X107.out.frozen 5
          have z131 := X107.out.frozen 6
          have z132 := X107.out.frozen 7
          have z133 := X107.out.frozen 8
          go_upto_region 15 with fail
          obtain ⟨W134, hW134⟩ : ∃ W134, W134 = (((((((((w4.setCell ⟨w.heap.size, 0, none⟩ (.int .i64 d3.pc)).setCell ⟨w.heap.size, 1, none⟩ (.int .i64 d3.sp)).setCell ⟨w.heap.size, 2, none⟩ (.int .i64 d3.bank)).setCell ⟨w.heap.size, 3, none⟩ (.int .i64 d3.level)).setCell ⟨w.heap.size, 4, none⟩ (.bool d3.zero)).setCell ⟨w.heap.size, 5, none⟩ (.bool d3.carry)).setCell ⟨w.heap.size, 6, none⟩ (.bool d3.on)).setCell ⟨w.heap.size, 7, none⟩ (.bool d3.halt)).setCell ⟨w.heap.size, 8, none⟩ (.slice Ab 16 cb)) := ⟨_, rfl⟩
          have hB135 : Btw (w.heap.size) (w.heap.size + 1) w4 W134 := by rw [hW134]; exact (Btw.refl _ _ _).put.put.put.put.put.put.put.put.put
          have X136 : Hid (Box W134 (w.heap.size) 25 #[.int .i64 d3.pc, .int .i64 d3.sp, .int .i64 d3.bank, .int .i64 d3.level, .bool d3.zero, .bool d3.carry, .bool d3.on, .bool d3.halt, .slice Ab 16 cb]) := Lib.hid (by rw [hW134]; exact (X107.out.allN9 rfl _ _ _ _ _ _ _ _ _))
          have X137 := Lib.hid (X108.out.btw hB135 (by have := Z2.out; have := SX.out; have := Z16.out; have := Z48.out; have := Z57.out; have := Z83.out; have := Z92.out; have := Z115.out; omega))
          have X138 := Lib.hid (X109.out.btw hB135 (by have := Z2.out; have := SX.out; have := Z16.out; have := Z48.out; have := Z57.out; have := Z83.out; have := Z92.out; have := Z115.out; omega))
          have X139 := Lib.hid (X110.out.btw hB135 (by have := Z2.out; have := SX.out; have := Z16.out; have := Z48.out; have := Z57.out; have := Z83.out; have := Z92.out; have := Z115.out; omega))
          have X140 := Lib.hid (X111.out.btw hB135 (by have := Z2.out; have := SX.out; have := Z16.out; have := Z48.out; have := Z57.out; have := Z83.out; have := Z92.out; have := Z115.out; omega))
          have F141 := Lib.hid (N2.out.off X107.out (by simp) hB135)
          have F142 := Lib.hid (F113.out.off X107.out (by simp) hB135)
          have hb143 := Btw.lowSize hB135 hb114 (Nat.le_of_lt X107.out.lt) (by have := Z2.out; have := SX.out; have := Z16.out; have := Z48.out; have := Z57.out; have := Z83.out; have := Z92.out; have := Z115.out; omega)
          have Z144 : Hid (w4.heap.size ≤ W134.heap.size) := Lib.hid hB135.size
          rw [← hW134]
          clear hW134 hB135 X107 X108 X109 X110 X111 N2 F113 hb114
          clear f116 f117 f118 f119 f120 f121 f122 f123 f124 z125 z126 z127 z128 z129 z130 z131 z132 z133
          have f145 := X136.out.cell 0 rfl
          have f146 := X136.out.cell 1 rfl
          have f147 := X136.out.cell 2 rfl
          have f148 := X136.out.cell 3 rfl
          have f149 := X136.out.cell 4 rfl
          have f150 := X136.out.cell 5 rfl
          have f151 := X136.out.cell 6 rfl
          have f152 := X136.out.cell 7 rfl
          have f153 := X136.out.cell 8 rfl
          go_wp2_with fail
          clear f145 f146 f147 f148 f149 f150 f151 f152 f153
          refine (HFl.out _ _ _ F141.out).mono ?_
          rintro e w5 ⟨Ax, cx, rfl, N3, hq5⟩
          have X154 := Lib.hid (X136.out.step hq5)
          have X155 := Lib.hid (X137.out.step hq5)
          have X156 := Lib.hid (X138.out.step hq5)
          have X157 := Lib.hid (X139.out.step hq5)
          have X158 := Lib.hid (X140.out.step hq5)
          have F159 := Lib.hid (F141.out.below hq5)
          have F160 := Lib.hid (F142.out.below hq5)
          have hb161 := bt hb143 hq5
          have Z162 : Hid (W134.heap.size ≤ w5.heap.size) := Lib.hid hq5.size
          clear X136 X137 X138 X139 X140 F141 F142 hb143 hq5
          clear F159 HFl
          have f163 := X154.out.cell 0 rfl
          have f164 := X154.out.cell 1 rfl
          have f165 := X154.out.cell 2 rfl
          have f166 := X154.out.cell 3 rfl
          have f167 := X154.out.cell 4 rfl
          have f168 := X154.out.cell 5 rfl
          have f169 := X154.out.cell 6 rfl
          have f170 := X154.out.cell 7 rfl
          have f171 := X154.out.cell 8 rfl
          have z172 := X154.out.frozen 0
          have z173 := X154.out.frozen 1
          have z174 := X154.out.frozen 2
          have z175 := X154.out.frozen 3
          have z176 := X154.out.frozen 4
          have z177 := X154.out.frozen 5
          have z178 := X154.out.frozen 6
          have z179 := X154.out.frozen 7
          have z180 := X154.out.frozen 8
          go_wp2_with fail
          go_meet
          obtain ⟨W181, hW181⟩ : ∃ W181, W181 = (((((((((w5.setCell ⟨w.heap.size, 0, none⟩ (.int .i64 dF.pc)).setCell ⟨w.heap.size, 1, none⟩ (.int .i64 dF.sp)).setCell ⟨w.heap.size, 2, none⟩ (.int .i64 dF.bank)).setCell ⟨w.heap.size, 3, none⟩ (.int .i64 dF.level)).setCell ⟨w.heap.size, 4, none⟩ (.bool dF.zero)).setCell ⟨w.heap.size, 5, none⟩ (.bool dF.carry)).setCell ⟨w.heap.size, 6, none⟩ (.bool dF.on)).setCell ⟨w.heap.size, 7, none⟩ (.bool dF.halt)).setCell ⟨w.heap.size, 8, none⟩ (.slice Ax 16 cx)) := ⟨_, rfl⟩
          have hB182 : Btw (w.heap.size) (w.heap.size + 1) w5 W181 := by rw [hW181]; exact (Btw.refl _ _ _).put.put.put.put.put.put.put.put.put
          have X183 : Hid (Box W181 (w.heap.size) 25 #[.int .i64 dF.pc, .int .i64 dF.sp, .int .i64 dF.bank, .int .i64 dF.level, .bool dF.zero, .bool dF.carry, .bool dF.on, .bool dF.halt, .slice Ax 16 cx]) := Lib.hid (by rw [hW181]; exact (X154.out.allN9 rfl _ _ _ _ _ _ _ _ _))
          have X184 := Lib.hid (X155.out.btw hB182 (by have := Z2.out; have := SX.out; have := Z16.out; have := Z48.out; have := Z57.out; have := Z83.out; have := Z92.out; have := Z115.out; have := Z144.out; have := Z162.out; omega))
          have X185 := Lib.hid (X156.out.btw hB182 (by have := Z2.out; have := SX.out; have := Z16.out; have := Z48.out; have := Z57.out; have := Z83.out; have := Z92.out; have := Z115.out; have := Z144.out; have := Z162.out; omega))
          have X186 := Lib.hid (X157.out.btw hB182 (by have := Z2.out; have := SX.out; have := Z16.out; have := Z48.out; have := Z57.out; have := Z83.out; have := Z92.out; have := Z115.out; have := Z144.out; have := Z162.out; omega))
          have X187 := Lib.hid (X158.out.btw hB182 (by have := Z2.out; have := SX.out; have := Z16.out; have := Z48.out; have := Z57.out; have := Z83.out; have := Z92.out; have := Z115.out; have := Z144.out; have := Z162.out; omega))
          have F188 := Lib.hid (N3.out.off X154.out (by simp) hB182)
          have F189 := Lib.hid (F160.out.off X154.out (by simp) hB182)
          have hb190 := Btw.lowSize hB182 hb161 (Nat.le_of_lt X154.out.lt) (by have := Z2.out; have := SX.out; have := Z16.out; have := Z48.out; have := Z57.out; have := Z83.out; have := Z92.out; have := Z115.out; have := Z144.out; have := Z162.out; omega)
          have Z191 : Hid (w5.heap.size ≤ W181.heap.size) := Lib.hid hB182.size
          rw [← hW181]
          clear hW181 hB182 X154 X155 X156 X157 X158 N3 F160 hb161
          obtain ⟨g1, g2, g3⟩ := HF.out
          rw [g2, g3]
          exact ⟨Ax, cx, A0, A1, A2, A3, c0, c1, c2, c3, rfl, Lib.hid hb190, X183, X184, X185, X186, F188, F189⟩
        · have f61 := XN.out.cell 0 rfl
          have f62 := XN.out.cell 1 rfl
          have f63 := XN.out.cell 2 rfl
          have f64 := XN.out.cell 3 rfl
          have f65 := XN.out.cell 4 rfl
          have f66 := XN.out.cell 5 rfl
          have f67 := XN.out.cell 6 rfl
          have f68 := XN.out.cell 7 rfl
          have f69 := XN.out.cell 8 rfl
          have f70 := X53.out.cell 0 rfl
          have f71 := X53.out.cell 1 rfl
          have f72 := X53.out.cell 2 rfl
          have z73 := XN.out.frozen 0
          have z74 := XN.out.frozen 1
          have z75 := XN.out.frozen 2
          have z76 := XN.out.frozen 3
          have z77 := XN.out.frozen 4
          have z78 := XN.out.frozen 5
          have z79 := XN.out.frozen 6
          have z80 := XN.out.frozen 7
          have z81 := XN.out.frozen 8
          go_wp2_with fail
          go_meet
          obtain ⟨W82, hW82⟩ : ∃ W82, W82 = (Wd.setCell ⟨w.heap.size, 6, none⟩ (.bool true)) := ⟨_, rfl⟩
          have hB83 : Btw (w.heap.size) (w.heap.size + 1) Wd W82 := by rw [hW82]; exact (Btw.refl _ _ _).put
          have X84 : Hid (Box W82 (w.heap.size) 25 #[.int .i64 dn.pc, .int .i64 dn.sp, .int .i64 dn.bank, .int .i64 dn.level, .bool dn.zero, .bool dn.carry, .bool true, .bool dn.halt, .slice A 16 c]) := Lib.hid (by rw [hW82]; exact (XN.out.set 6 _))
          have X85 := Lib.hid (X50.out.btw hB83 (by have := Z2.out; have := SX.out; have := Z16.out; have := Z48.out; have := Z57.out; omega))
          have X86 := Lib.hid (X51.out.btw hB83 (by have := Z2.out; have := SX.out; have := Z16.out; have := Z48.out; have := Z57.out; omega))
          have X87 := Lib.hid (X52.out.btw hB83 (by have := Z2.out; have := SX.out; have := Z16.out; have := Z48.out; have := Z57.out; omega))
          have X88 := Lib.hid (X53.out.btw hB83 (by have := Z2.out; have := SX.out; have := Z16.out; have := Z48.out; have := Z57.out; omega))
          have F89 := Lib.hid (NC.out.off XN.out (by simp) hB83)
          have F90 := Lib.hid (F55.out.off XN.out (by simp) hB83)
          have hb91 := Btw.lowSize hB83 hb56 (Nat.le_of_lt XN.out.lt) (by have := Z2.out; have := SX.out; have := Z16.out; have := Z48.out; have := Z57.out; omega)
          have Z92 : Hid (Wd.heap.size ≤ W82.heap.size) := Lib.hid hB83.size
          rw [← hW82]
          clear hW82 hB83 XN X50 X51 X52 X53 NC F55 hb56
          obtain ⟨g1, g2, g3⟩ := HF.out
          rw [g1, g2, g3]
          exact ⟨A, c, A0, A1, A2, A3, c0, c1, c2, c3, rfl, Lib.hid hb91, X84, X85, X86, X87, Lib.hid ⟨hO.exec (m := m) hi0, F89.out.2⟩, F90⟩
        · have f61 := XN.out.cell 0 rfl
          have f62 := XN.out.cell 1 rfl
          have f63 := XN.out.cell 2 rfl
          have f64 := XN.out.cell 3 rfl
          have f65 := XN.out.cell 4 rfl
          have f66 := XN.out.cell 5 rfl
          have f67 := XN.out.cell 6 rfl
          have f68 := XN.out.cell 7 rfl
          have f69 := XN.out.cell 8 rfl
          have f70 := X53.out.cell 0 rfl
          have f71 := X53.out.cell 1 rfl
          have f72 := X53.out.cell 2 rfl
          have z73 := XN.out.frozen 0
          have z74 := XN.out.frozen 1
          have z75 := XN.out.frozen 2
          have z76 := XN.out.frozen 3
          have z77 := XN.out.frozen 4
          have z78 := XN.out.frozen 5
          have z79 := XN.out.frozen 6
          have z80 := XN.out.frozen 7
          have z81 := XN.out.frozen 8
          go_wp2_with fail
          go_meet
          obtain ⟨W82, hW82⟩ : ∃ W82, W82 = (Wd.setCell ⟨w.heap.size, 6, none⟩ (.bool false)) := ⟨_, rfl⟩
          have hB83 : Btw (w.heap.size) (w.heap.size + 1) Wd W82 := by rw [hW82]; exact (Btw.refl _ _ _).put
          have X84 : Hid (Box W82 (w.heap.size) 25 #[.int .i64 dn.pc, .int .i64 dn.sp, .int .i64 dn.bank, .int .i64 dn.level, .bool dn.zero, .bool dn.carry, .bool false, .bool dn.halt, .slice A 16 c]) := Lib.hid (by rw [hW82]; exact (XN.out.set 6 _))
          have X85 := Lib.hid (X50.out.btw hB83 (by have := Z2.out; have := SX.out; have := Z16.out; have := Z48.out; have := Z57.out; omega))
          have X86 := Lib.hid (X51.out.btw hB83 (by have := Z2.out; have := SX.out; have := Z16.out; have := Z48.out; have := Z57.out; omega))
          have X87 := Lib.hid (X52.out.btw hB83 (by have := Z2.out; have := SX.out; have := Z16.out; have := Z48.out; have := Z57.out; omega))
          have X88 := Lib.hid (X53.out.btw hB83 (by have := Z2.out; have := SX.out; have := Z16.out; have := Z48.out; have := Z57.out; omega))
          have F89 := Lib.hid (NC.out.off XN.out (by simp) hB83)
          have F90 := Lib.hid (F55.out.off XN.out (by simp) hB83)
          have hb91 := Btw.lowSize hB83 hb56 (Nat.le_of_lt XN.out.lt) (by have := Z2.out; have := SX.out; have := Z16.out; have := Z48.out; have := Z57.out; omega)
          have Z92 : Hid (Wd.heap.size ≤ W82.heap.size) := Lib.hid hB83.size
          rw [← hW82]
          clear hW82 hB83 XN X50 X51 X52 X53 NC F55 hb56
          obtain ⟨g1, g2, g3⟩ := HF.out
          rw [g1, g2, g3]
          exact ⟨A, c, A0, A1, A2, A3, c0, c1, c2, c3, rfl, Lib.hid hb91, X84, X85, X86, X87, Lib.hid ⟨hO.exec (m := m) hi0, F89.out.2⟩, F90⟩
        · have HA := Lib.hid (fun W (q : RepC W A dn) => l08SetS A c dn x1 x2 W hr ⟨ha.1, hy (.inl rfl)⟩ q)
          unfold ReadsC at HA
          have h1 : dF = dn.set x1 x2 := HF.out.1
          rw [← h1] at HA
          clear h1
          have f61 := XN.out.cell 0 rfl
          have f62 := XN.out.cell 1 rfl
          have f63 := XN.out.cell 2 rfl
          have f64 := XN.out.cell 3 rfl
          have f65 := XN.out.cell 4 rfl
          have f66 := XN.out.cell 5 rfl
          have f67 := XN.out.cell 6 rfl
          have f68 := XN.out.cell 7 rfl
          have f69 := XN.out.cell 8 rfl
          have f70 := X53.out.cell 0 rfl
          have f71 := X53.out.cell 1 rfl
          have f72 := X53.out.cell 2 rfl
          go_wp2_with fail
          clear f61 f62 f63 f64 f65 f66 f67 f68 f69 f70 f71 f72
          refine (HA.out _ NC.out).mono ?_
          rintro e w3 ⟨Aa, ca, rfl, N1, hq3⟩
          have X73 := Lib.hid (XN.out.step hq3)
          have X74 := Lib.hid (X50.out.step hq3)
          have X75 := Lib.hid (X51.out.step hq3)
          have X76 := Lib.hid (X52.out.step hq3)
          have X77 := Lib.hid (X53.out.step hq3)
          have F78 := Lib.hid (NC.out.below hq3)
          have F79 := Lib.hid (F55.out.below hq3)
          have hb80 := bt hb56 hq3
          have Z81 : Hid (Wd.heap.size ≤ w3.heap.size) := Lib.hid hq3.size
          clear XN X50 X51 X52 X53 NC F55 hb56 hq3
          clear F78 HA
          have f82 := X73.out.cell 0 rfl
          have f83 := X73.out.cell 1 rfl
          have f84 := X73.out.cell 2 rfl
          have f85 := X73.out.cell 3 rfl
          have f86 := X73.out.cell 4 rfl
          have f87 := X73.out.cell 5 rfl
          have f88 := X73.out.cell 6 rfl
          have f89 := X73.out.cell 7 rfl
          have f90 := X73.out.cell 8 rfl
          have z91 := X73.out.frozen 0
          have z92 := X73.out.frozen 1
          have z93 := X73.out.frozen 2
          have z94 := X73.out.frozen 3
          have z95 := X73.out.frozen 4
          have z96 := X73.out.frozen 5
          have z97 := X73.out.frozen 6
          have z98 := X73.out.frozen 7
          have z99 := X73.out.frozen 8
          go_wp2_with fail
          go_meet
          obtain ⟨W100, hW100⟩ : ∃ W100, W100 = (((((((((w3.setCell ⟨w.heap.size, 0, none⟩ (.int .i64 dF.pc)).setCell ⟨w.heap.size, 1, none⟩ (.int .i64 dF.sp)).setCell ⟨w.heap.size, 2, none⟩ (.int .i64 dF.bank)).setCell ⟨w.heap.size, 3, none⟩ (.int .i64 dF.level)).setCell ⟨w.heap.size, 4, none⟩ (.bool dF.zero)).setCell ⟨w.heap.size, 5, none⟩ (.bool dF.carry)).setCell ⟨w.heap.size, 6, none⟩ (.bool dF.on)).setCell ⟨w.heap.size, 7, none⟩ (.bool dF.halt)).setCell ⟨w.heap.size, 8, none⟩ (.slice Aa 16 ca)) := ⟨_, rfl⟩
          have hB101 : Btw (w.heap.size) (w.heap.size + 1) w3 W100 := by rw [hW100]; exact (Btw.refl _ _ _).put.put.put.put.put.put.put.put.put
          have X102 : Hid (Box W100 (w.heap.size) 25 #[.int .i64 dF.pc, .int .i64 dF.sp, .int .i64 dF.bank, .int .i64 dF.level, .bool dF.zero, .bool dF.carry, .bool dF.on, .bool dF.halt, .slice Aa 16 ca]) := Lib.hid (by rw [hW100]; exact (X73.out.allN9 rfl _ _ _ _ _ _ _ _ _))
          have X103 := Lib.hid (X74.out.btw hB101 (by have := Z2.out; have := SX.out; have := Z16.out; have := Z48.out; have := Z57.out; have := Z81.out; omega))
          have X104 := Lib.hid (X75.out.btw hB101 (by have := Z2.out; have := SX.out; have := Z16.out; have := Z48.out; have := Z57.out; have := Z81.out; omega))
          have X105 := Lib.hid (X76.out.btw hB101 (by have := Z2.out; have := SX.out; have := Z16.out; have := Z48.out; have := Z57.out; have := Z81.out; omega))
          have X106 := Lib.hid (X77.out.btw hB101 (by have := Z2.out; have := SX.out; have := Z16.out; have := Z48.out; have := Z57.out; have := Z81.out; omega))
          have F107 := Lib.hid (N1.out.off X73.out (by simp) hB101)
          have F108 := Lib.hid (F79.out.off X73.out (by simp) hB101)
          have hb109 := Btw.lowSize hB101 hb80 (Nat.le_of_lt X73.out.lt) (by have := Z2.out; have := SX.out; have := Z16.out; have := Z48.out; have := Z57.out; have := Z81.out; omega)
          have Z110 : Hid (w3.heap.size ≤ W100.heap.size) := Lib.hid hB101.size
          rw [← hW100]
          clear hW100 hB101 X73 X74 X75 X76 X77 N1 F79 hb80
          obtain ⟨g1, g2, g3⟩ := HF.out
          rw [g2, g3]
          exact ⟨Aa, ca, A0, A1, A2, A3, c0, c1, c2, c3, rfl, Lib.hid hb109, X102, X103, X104, X105, F107, F108⟩
        · have hv0 := hMo.get x2 ha.1 ha.2
          have HGet := Lib.hid (fun W (q : RepM W A0 A1 A2 A3 m) => l05GetM A0 A1 A2 A3 c0 c1 c2 c3 m W x2 ha.1 ha.2 q)
          have h1 : dF = { dn.set x1 (m.get x2 % 256) with zero := decide (m.get x2 % 256 = 0) } := HF.out.1
          rw [show m.get x2 % 256 = m.get x2 by omega] at h1
          have hrs := reg_set (v := m.get x2) hO hr
          have HSet := Lib.hid (fun W (q : RepC W A dn) => l08SetS A c dn x1 (m.get x2) W hr hv0 q)
          unfold ReadsC at HSet
          have HRg := Lib.hid (fun Aa ca W (q : RepC W Aa (dn.set x1 (m.get x2))) => l08RegS Aa ca (dn.set x1 (m.get x2)) x1 W hr q)
          rw [hrs] at HRg
          generalize dn.set x1 (m.get x2) = d2 at h1 HSet HRg
          generalize m.get x2 = v at HGet HSet HRg h1
          clear hv0 hrs
          have e2 : (v == 0) = decide (v = 0) := by rw [Bool.eq_iff_iff]; simp
          have H1 := Lib.hid h1
          clear h1
          have HX : Hid (∀ W, Below Wd.heap.size Wd W → Box W (w.heap.size) 25 #[.int .i64 dn.pc, .int .i64 dn.sp, .int .i64 dn.bank, .int .i64 dn.level, .bool dn.zero, .bool dn.carry, .bool dn.on, .bool dn.halt, .slice A 16 c] ∧ Box W (w.heap.size + 1) 31 #[.slice A0 256 c0, .slice A1 32 c1, .slice A2 256 c2, .slice A3 16 c3, .int .i64 m.s] ∧ Box W bx 82 #[.int .i64 6, .int .i64 x1, .int .i64 x2]) := Lib.hid (fun W k => ⟨XN.out.step k, X50.out.step k, X53.out.step k⟩)
          have HFC : Hid (∀ W, Below Wd.heap.size Wd W → RepC W A dn) := Lib.hid (fun W k => NC.out.below k)
          have HFM : Hid (∀ W, Below Wd.heap.size Wd W → RepM W A0 A1 A2 A3 m) := Lib.hid (fun W k => F55.out.below k)
          go_upto_region 22 with fail
          refine wp_region_last (by kernel_rfl) [[89], [90], [91], [92], [93], [94], [95], [96], []] [[], [], [1], [], [], [4], [3, 4, 5], [0, 1, 2, 3, 4, 5, 6], [0, 1, 2, 3, 4, 5, 6, 7]] [0, 1, 2, 3, 4, 5, 6, 7, 8, 9, 10, 165, 166, 167, 168] (by kernel_rfl) 8 (by kernel_rfl) (fun W => Below Wd.heap.size Wd W) (fun W => Btw (w.heap.size) (w.heap.size + 1) Wd W) (ldF (w.heap.size) bx A A0 A1 A2 A3 c c0 c1 c2 c3 dn m x1 x2 v d2) (Below.refl _ _).drew ?_ ?_
          · refine ⟨?_, ?_, ?_, ?_, ?_, ?_, ?_, ?_, ?_, trivial⟩
            · intro T W hT hs hC hF K hK
              refine wp_load_row 25 (.tmp 2) rfl (w.heap.size) (hs 2 (by decide)) 25 #[.int .i64 dn.pc, .int .i64 dn.sp, .int .i64 dn.bank, .int .i64 dn.level, .bool dn.zero, .bool dn.carry, .bool dn.on, .bool dn.halt, .slice A 16 c] (0, 0) _ (HX.out W hC).1 Tryz.underlying25 rfl infoCpu9 ?_
              exact hK.out _ W (ifn8 (by decide) hC) (fun _ _ _ h => h) (mask_put [89] 89 (by decide) _ _ _ (by rw [hT]; show 89 < 169; decide))
            · intro T W hT hs hC hF K hK
              have e : T.getD 8 undef = .pointer (some ⟨bx, 0, none⟩) := hs 8 (by decide)
              have hq := fun v : Value => (mask_put [90] 90 (by decide) T { tmps := T, defers := [] } v (by rw [hT]; show 90 < 169; decide))
              clear hs hF hT
              go_simp
              exact hK.out _ W (ifn8 (by decide) hC) (fun _ _ _ h => h) (hq _)
            · intro T W hT hs hC hF K hK
              have e : T.getD 90 undef = .pointer (some ⟨bx, 1, none⟩) := hF 1 (by decide)
              have y := (HX.out W hC).2.2.cell 1 rfl
              have hq := fun v : Value => (mask_put [91] 91 (by decide) T { tmps := T, defers := [] } v (by rw [hT]; show 91 < 169; decide))
              clear hs hF hT
              go_simp
              exact hK.out _ W (ifn8 (by decide) hC) (fun _ _ _ h => h) (hq _)
            · intro T W hT hs hC hF K hK
              refine wp_load_row 31 (.tmp 3) rfl (w.heap.size + 1) (hs 3 (by decide)) 31 #[.slice A0 256 c0, .slice A1 32 c1, .slice A2 256 c2, .slice A3 16 c3, .int .i64 m.s] (0, 0) _ (HX.out W hC).2.1 Tryz.underlying31 rfl infoMem5 ?_
              exact hK.out _ W (ifn8 (by decide) hC) (fun _ _ _ h => h) (mask_put [92] 92 (by decide) _ _ _ (by rw [hT]; show 92 < 169; decide))
            · intro T W hT hs hC hF K hK
              have e : T.getD 8 undef = .pointer (some ⟨bx, 0, none⟩) := hs 8 (by decide)
              have hq := fun v : Value => (mask_put [93] 93 (by decide) T { tmps := T, defers := [] } v (by rw [hT]; show 93 < 169; decide))
              clear hs hF hT
              go_simp
              exact hK.out _ W (ifn8 (by decide) hC) (fun _ _ _ h => h) (hq _)
            · intro T W hT hs hC hF K hK
              have e : T.getD 93 undef = .pointer (some ⟨bx, 2, none⟩) := hF 4 (by decide)
              have y := (HX.out W hC).2.2.cell 2 rfl
              have hq := fun v : Value => (mask_put [94] 94 (by decide) T { tmps := T, defers := [] } v (by rw [hT]; show 94 < 169; decide))
              clear hs hF hT
              go_simp
              exact hK.out _ W (ifn8 (by decide) hC) (fun _ _ _ h => h) (hq _)
            · intro T W hT hs hC hF K hK
              have e3 : T.getD 92 undef = .agg #[.slice A0 256 c0, .slice A1 32 c1, .slice A2 256 c2, .slice A3 16 c3, .int .i64 m.s] := hF 3 (by decide)
              have e5 : T.getD 94 undef = .int .i64 x2 := hF 5 (by decide)
              refine wp_callfn Tryz.func60 (by kernel_rfl) (by kernel_rfl) [.agg #[.slice A0 256 c0, .slice A1 32 c1, .slice A2 256 c2, .slice A3 16 c3, .int .i64 m.s], .int .i64 x2] rfl (by show [T.getD 92 undef, T.getD 94 undef] = _; rw [e3, e5]) (HGet.out W (HFM.out W hC)) ?_
              rintro e w1 ⟨rfl, hc⟩
              exact ⟨_, rfl, hK.out _ w1 (ifn8 (by decide) (hC.trans (hc.mono hC.size))) (fun j t _ h => ldF_below hc j t h) (mask_put [95] 95 (by decide) _ _ _ (by rw [hT]; show 95 < 169; decide))⟩
            · intro T W hT hs hC hF K hK
              have e0 : T.getD 89 undef = .agg #[.int .i64 dn.pc, .int .i64 dn.sp, .int .i64 dn.bank, .int .i64 dn.level, .bool dn.zero, .bool dn.carry, .bool dn.on, .bool dn.halt, .slice A 16 c] := hF 0 (by decide)
              have e2 : T.getD 91 undef = .int .i64 x1 := hF 2 (by decide)
              have e6 : T.getD 95 undef = .int .i64 v := hF 6 (by decide)
              refine wp_callfn Tryz.func66 (by kernel_rfl) (by kernel_rfl) [.agg #[.int .i64 dn.pc, .int .i64 dn.sp, .int .i64 dn.bank, .int .i64 dn.level, .bool dn.zero, .bool dn.carry, .bool dn.on, .bool dn.halt, .slice A 16 c], .int .i64 x1, .int .i64 v] rfl (by show [T.getD 89 undef, T.getD 91 undef, T.getD 95 undef] = _; rw [e0, e2, e6]) (HSet.out W (HFC.out W hC)) ?_
              rintro e w1 ⟨Aa, ca, rfl, N, hc⟩
              exact ⟨_, rfl, hK.out _ w1 (ifn8 (by decide) (hC.trans (hc.mono hC.size))) (fun j t _ h => ldF_below hc j t h) ⟨Aa, ca, (mask_put [96] 96 (by decide) _ _ _ (by rw [hT]; show 96 < 169; decide)), N.out⟩⟩
            · intro T W hT hs hC hF K hK
              obtain ⟨Aa, ca, e96, N⟩ := hF 7 (by decide)
              have e96 : T.getD 96 undef = .agg #[.int .i64 d2.pc, .int .i64 d2.sp, .int .i64 d2.bank, .int .i64 d2.level, .bool d2.zero, .bool d2.carry, .bool d2.on, .bool d2.halt, .slice Aa 16 ca] := e96
              have X := (HX.out W hC).1
              refine wp_store_row 25 (.tmp 2) (.tmp 96) rfl (w.heap.size) #[.int .i64 d2.pc, .int .i64 d2.sp, .int .i64 d2.bank, .int .i64 d2.level, .bool d2.zero, .bool d2.carry, .bool d2.on, .bool d2.halt, .slice Aa 16 ca] (hs 2 (by decide)) e96 25 #[.int .i64 dn.pc, .int .i64 dn.sp, .int .i64 dn.bank, .int .i64 dn.level, .bool dn.zero, .bool dn.carry, .bool dn.on, .bool dn.halt, .slice A 16 c] X infoCpu9 rfl one9 ?_
              exact hK.out _ _ (ifp8 ((Btw.of_below hC (w.heap.size) (w.heap.size + 1)).trans (btw_rowS W _ _))) (fun j t n h => ldF_store X _ (by simp) j t n h) ⟨Aa, ca, N.off X (by simp) (btw_rowS _ _ _), X.setRow _⟩
          · intro T W hT hs hC hF
            obtain ⟨Aa, ca, N1, XZ⟩ := hF 8 (by decide)
            have hB : Btw (w.heap.size) (w.heap.size + 1) Wd W := hC
            have v2 : T.getD 2 undef = .pointer (some ⟨w.heap.size, 0, none⟩) := hs 2 (by decide)
            have v3 : T.getD 3 undef = .pointer (some ⟨w.heap.size + 1, 0, none⟩) := hs 3 (by decide)
            have v4 : T.getD 4 undef = .pointer (some ⟨w.heap.size + 2, 0, none⟩) := hs 4 (by decide)
            have v5 : T.getD 5 undef = .pointer (some ⟨w.heap.size + 3, 0, none⟩) := hs 5 (by decide)
            have v8 : T.getD 8 undef = .pointer (some ⟨bx, 0, none⟩) := hs 8 (by decide)
            have v0 := hs 0 (by decide)
            conv at v0 => rhs; whnf
            have v1 := hs 1 (by decide)
            conv at v1 => rhs; whnf
            have v6 := hs 6 (by decide)
            conv at v6 => rhs; whnf
            have v7 := hs 7 (by decide)
            conv at v7 => rhs; whnf
            have v9 := hs 9 (by decide)
            conv at v9 => rhs; whnf
            have v10 := hs 10 (by decide)
            conv at v10 => rhs; whnf
            have v165 := hs 165 (by decide)
            conv at v165 => rhs; whnf
            have v166 := hs 166 (by decide)
            conv at v166 => rhs; whnf
            have v167 := hs 167 (by decide)
            conv at v167 => rhs; whnf
            have v168 := hs 168 (by decide)
            conv at v168 => rhs; whnf
            rw [lit169 T hT]
            simp only [v0, v1, v2, v3, v4, v5, v6, v7, v8, v9, v10, v165, v166, v167, v168]
            have NH := Lib.hid N1
            have XH := Lib.hid XZ
            clear N1 XZ hF hs hT hC v0 v1 v2 v3 v4 v5 v6 v7 v8 v9 v10 v165 v166 v167 v168
            have X61 := Lib.hid (X50.out.btw hB (by have := Z2.out; have := SX.out; have := Z16.out; have := Z48.out; have := Z57.out; omega))
            have X62 := Lib.hid (X51.out.btw hB (by have := Z2.out; have := SX.out; have := Z16.out; have := Z48.out; have := Z57.out; omega))
            have X63 := Lib.hid (X52.out.btw hB (by have := Z2.out; have := SX.out; have := Z16.out; have := Z48.out; have := Z57.out; omega))
            have X64 := Lib.hid (X53.out.btw hB (by have := Z2.out; have := SX.out; have := Z16.out; have := Z48.out; have := Z57.out; omega))
            have F65 := Lib.hid (F55.out.off XN.out (by simp) hB)
            have hb66 := Btw.lowSize hB hb56 (Nat.le_of_lt XN.out.lt) (by have := Z2.out; have := SX.out; have := Z16.out; have := Z48.out; have := Z57.out; omega)
            have Z67 : Hid (Wd.heap.size ≤ W.heap.size) := Lib.hid hB.size
            clear hB XN X50 X51 X52 X53 NC F55 hb56 HX HFC HFM
            have f68 := XH.out.cell 0 rfl
            have f69 := XH.out.cell 1 rfl
            have f70 := XH.out.cell 2 rfl
            have f71 := XH.out.cell 3 rfl
            have f72 := XH.out.cell 4 rfl
            have f73 := XH.out.cell 5 rfl
            have f74 := XH.out.cell 6 rfl
            have f75 := XH.out.cell 7 rfl
            have f76 := XH.out.cell 8 rfl
            have f77 := X64.out.cell 0 rfl
            have f78 := X64.out.cell 1 rfl
            have f79 := X64.out.cell 2 rfl
            go_wp2_with fail
            clear f68 f69 f70 f71 f72 f73 f74 f75 f76 f77 f78 f79
            refine (HRg.out _ _ _ NH.out).mono ?_
            rintro e w4 ⟨rfl, hq4⟩
            have X80 := Lib.hid (XH.out.step hq4)
            have X81 := Lib.hid (X61.out.step hq4)
            have X82 := Lib.hid (X62.out.step hq4)
            have X83 := Lib.hid (X63.out.step hq4)
            have X84 := Lib.hid (X64.out.step hq4)
            have F85 := Lib.hid (NH.out.below hq4)
            have F86 := Lib.hid (F65.out.below hq4)
            have hb87 := bt hb66 hq4
            have Z88 : Hid (W.heap.size ≤ w4.heap.size) := Lib.hid hq4.size
            clear XH X61 X62 X63 X64 NH F65 hb66 hq4
            have f89 := X80.out.cell 0 rfl
            have f90 := X80.out.cell 1 rfl
            have f91 := X80.out.cell 2 rfl
            have f92 := X80.out.cell 3 rfl
            have f93 := X80.out.cell 4 rfl
            have f94 := X80.out.cell 5 rfl
            have f95 := X80.out.cell 6 rfl
            have f96 := X80.out.cell 7 rfl
            have f97 := X80.out.cell 8 rfl
            have z98 := X80.out.frozen 0
            have z99 := X80.out.frozen 1
            have z100 := X80.out.frozen 2
            have z101 := X80.out.frozen 3
            have z102 := X80.out.frozen 4
            have z103 := X80.out.frozen 5
            have z104 := X80.out.frozen 6
            have z105 := X80.out.frozen 7
            have z106 := X80.out.frozen 8
            go_wp2_with fail
            go_meet
            obtain ⟨W107, hW107⟩ : ∃ W107, W107 = (w4.setCell ⟨w.heap.size, 4, none⟩ (.bool (decide (v = 0)))) := ⟨_, rfl⟩
            have hB108 : Btw (w.heap.size) (w.heap.size + 1) w4 W107 := by rw [hW107]; exact (Btw.refl _ _ _).put
            have X109 : Hid (Box W107 (w.heap.size) 25 #[.int .i64 d2.pc, .int .i64 d2.sp, .int .i64 d2.bank, .int .i64 d2.level, .bool (decide (v = 0)), .bool d2.carry, .bool d2.on, .bool d2.halt, .slice Aa 16 ca]) := Lib.hid (by rw [hW107]; exact (X80.out.set 4 _))
            have X110 := Lib.hid (X81.out.btw hB108 (by have := Z2.out; have := SX.out; have := Z16.out; have := Z48.out; have := Z57.out; have := Z67.out; have := Z88.out; omega))
            have X111 := Lib.hid (X82.out.btw hB108 (by have := Z2.out; have := SX.out; have := Z16.out; have := Z48.out; have := Z57.out; have := Z67.out; have := Z88.out; omega))
            have X112 := Lib.hid (X83.out.btw hB108 (by have := Z2.out; have := SX.out; have := Z16.out; have := Z48.out; have := Z57.out; have := Z67.out; have := Z88.out; omega))
            have X113 := Lib.hid (X84.out.btw hB108 (by have := Z2.out; have := SX.out; have := Z16.out; have := Z48.out; have := Z57.out; have := Z67.out; have := Z88.out; omega))
            have F114 := Lib.hid (F85.out.off X80.out (by simp) hB108)
            have F115 := Lib.hid (F86.out.off X80.out (by simp) hB108)
            have hb116 := Btw.lowSize hB108 hb87 (Nat.le_of_lt X80.out.lt) (by have := Z2.out; have := SX.out; have := Z16.out; have := Z48.out; have := Z57.out; have := Z67.out; have := Z88.out; omega)
            have Z117 : Hid (w4.heap.size ≤ W107.heap.size) := Lib.hid hB108.size
            rw [← hW107]
            clear hW107 hB108 X80 X81 X82 X83 X84 F85 F86 hb87
            have g0 := H1.out
            have hok := hO.exec (m := m) hi0
            rw [← HF.out.1] at hok
            rw [g0] at hok
            obtain ⟨g1, g2, g3⟩ := HF.out
            rw [g0, g2, g3]
            exact ⟨Aa, ca, A0, A1, A2, A3, c0, c1, c2, c3, rfl, Lib.hid hb116, X109, X110, X111, X112, Lib.hid ⟨hok, F114.out.2⟩, F115⟩
        · have hv0 := hO.reg hr.1 hr.2
          have HGet := Lib.hid (fun W (q : RepC W A dn) => l08RegS A c dn x1 W hr q)
          have h1 : mF = m.put x2 (dn.reg x1) := HF.out.2.1
          have HSet := Lib.hid (fun W (q : RepM W A0 A1 A2 A3 m) => l05PutM A0 A1 A2 A3 c0 c1 c2 c3 m W x2 (dn.reg x1) ha.1 ha.2 hv0.1 hv0.2 q)
          unfold ReadsM at HSet
          rw [← h1] at HSet
          generalize dn.reg x1 = v at HGet HSet
          clear hv0 h1
          have HX : Hid (∀ W, Below Wd.heap.size Wd W → Box W (w.heap.size) 25 #[.int .i64 dn.pc, .int .i64 dn.sp, .int .i64 dn.bank, .int .i64 dn.level, .bool dn.zero, .bool dn.carry, .bool dn.on, .bool dn.halt, .slice A 16 c] ∧ Box W (w.heap.size + 1) 31 #[.slice A0 256 c0, .slice A1 32 c1, .slice A2 256 c2, .slice A3 16 c3, .int .i64 m.s] ∧ Box W bx 82 #[.int .i64 7, .int .i64 x1, .int .i64 x2]) := Lib.hid (fun W k => ⟨XN.out.step k, X50.out.step k, X53.out.step k⟩)
          have HFC : Hid (∀ W, Below Wd.heap.size Wd W → RepC W A dn) := Lib.hid (fun W k => NC.out.below k)
          have HFM : Hid (∀ W, Below Wd.heap.size Wd W → RepM W A0 A1 A2 A3 m) := Lib.hid (fun W k => F55.out.below k)
          go_upto_region 25 with fail
          refine wp_region_last (by kernel_rfl) [[105], [106], [107], [108], [109], [110], [111], [112], []] [[], [], [1], [], [], [4], [3, 4, 5], [0, 1, 2, 3, 4, 5, 6], [0, 1, 2, 3, 4, 5, 6, 7]] [0, 1, 2, 3, 4, 5, 6, 7, 8, 9, 10, 165, 166, 167, 168] (by kernel_rfl) 8 (by kernel_rfl) (fun W => Below Wd.heap.size Wd W) (fun W => Btw (w.heap.size + 1) (w.heap.size + 1 + 1) Wd W) (stF8 (w.heap.size + 1) bx A A0 A1 A2 A3 c c0 c1 c2 c3 dn m x1 x2 v mF) (Below.refl _ _).drew ?_ ?_
          · refine ⟨?_, ?_, ?_, ?_, ?_, ?_, ?_, ?_, ?_, trivial⟩
            · intro T W hT hs hC hF K hK
              refine wp_load_row 31 (.tmp 3) rfl (w.heap.size + 1) (hs 3 (by decide)) 31 #[.slice A0 256 c0, .slice A1 32 c1, .slice A2 256 c2, .slice A3 16 c3, .int .i64 m.s] (0, 0) _ (HX.out W hC).2.1 Tryz.underlying31 rfl infoMem5 ?_
              exact hK.out _ W (ifn8 (by decide) hC) (fun _ _ _ h => h) (mask_put [105] 105 (by decide) _ _ _ (by rw [hT]; show 105 < 169; decide))
            · intro T W hT hs hC hF K hK
              have e : T.getD 8 undef = .pointer (some ⟨bx, 0, none⟩) := hs 8 (by decide)
              have hq := fun v : Value => (mask_put [106] 106 (by decide) T { tmps := T, defers := [] } v (by rw [hT]; show 106 < 169; decide))
              clear hs hF hT
              go_simp
              exact hK.out _ W (ifn8 (by decide) hC) (fun _ _ _ h => h) (hq _)
            · intro T W hT hs hC hF K hK
              have e : T.getD 106 undef = .pointer (some ⟨bx, 2, none⟩) := hF 1 (by decide)
              have y := (HX.out W hC).2.2.cell 2 rfl
              have hq := fun v : Value => (mask_put [107] 107 (by decide) T { tmps := T, defers := [] } v (by rw [hT]; show 107 < 169; decide))
              clear hs hF hT
              go_simp
              exact hK.out _ W (ifn8 (by decide) hC) (fun _ _ _ h => h) (hq _)
            · intro T W hT hs hC hF K hK
              refine wp_load_row 25 (.tmp 2) rfl (w.heap.size) (hs 2 (by decide)) 25 #[.int .i64 dn.pc, .int .i64 dn.sp, .int .i64 dn.bank, .int .i64 dn.level, .bool dn.zero, .bool dn.carry, .bool dn.on, .bool dn.halt, .slice A 16 c] (0, 0) _ (HX.out W hC).1 Tryz.underlying25 rfl infoCpu9 ?_
              exact hK.out _ W (ifn8 (by decide) hC) (fun _ _ _ h => h) (mask_put [108] 108 (by decide) _ _ _ (by rw [hT]; show 108 < 169; decide))
            · intro T W hT hs hC hF K hK
              have e : T.getD 8 undef = .pointer (some ⟨bx, 0, none⟩) := hs 8 (by decide)
              have hq := fun v : Value => (mask_put [109] 109 (by decide) T { tmps := T, defers := [] } v (by rw [hT]; show 109 < 169; decide))
              clear hs hF hT
              go_simp
              exact hK.out _ W (ifn8 (by decide) hC) (fun _ _ _ h => h) (hq _)
            · intro T W hT hs hC hF K hK
              have e : T.getD 109 undef = .pointer (some ⟨bx, 1, none⟩) := hF 4 (by decide)
              have y := (HX.out W hC).2.2.cell 1 rfl
              have hq := fun v : Value => (mask_put [110] 110 (by decide) T { tmps := T, defers := [] } v (by rw [hT]; show 110 < 169; decide))
              clear hs hF hT
              go_simp
              exact hK.out _ W (ifn8 (by decide) hC) (fun _ _ _ h => h) (hq _)
            · intro T W hT hs hC hF K hK
              have e3 : T.getD 108 undef = .agg #[.int .i64 dn.pc, .int .i64 dn.sp, .int .i64 dn.bank, .int .i64 dn.level, .bool dn.zero, .bool dn.carry, .bool dn.on, .bool dn.halt, .slice A 16 c] := hF 3 (by decide)
              have e5 : T.getD 110 undef = .int .i64 x1 := hF 5 (by decide)
              refine wp_callfn Tryz.func67 (by kernel_rfl) (by kernel_rfl) [.agg #[.int .i64 dn.pc, .int .i64 dn.sp, .int .i64 dn.bank, .int .i64 dn.level, .bool dn.zero, .bool dn.carry, .bool dn.on, .bool dn.halt, .slice A 16 c], .int .i64 x1] rfl (by show [T.getD 108 undef, T.getD 110 undef] = _; rw [e3, e5]) (HGet.out W (HFC.out W hC)) ?_
              rintro e w1 ⟨rfl, hc⟩
              exact ⟨_, rfl, hK.out _ w1 (ifn8 (by decide) (hC.trans (hc.mono hC.size))) (fun j t _ h => stF8_below hc j t h) (mask_put [111] 111 (by decide) _ _ _ (by rw [hT]; show 111 < 169; decide))⟩
            · intro T W hT hs hC hF K hK
              have e0 : T.getD 105 undef = .agg #[.slice A0 256 c0, .slice A1 32 c1, .slice A2 256 c2, .slice A3 16 c3, .int .i64 m.s] := hF 0 (by decide)
              have e2 : T.getD 107 undef = .int .i64 x2 := hF 2 (by decide)
              have e6 : T.getD 111 undef = .int .i64 v := hF 6 (by decide)
              refine wp_callfn Tryz.func68 (by kernel_rfl) (by kernel_rfl) [.agg #[.slice A0 256 c0, .slice A1 32 c1, .slice A2 256 c2, .slice A3 16 c3, .int .i64 m.s], .int .i64 x2, .int .i64 v] rfl (by show [T.getD 105 undef, T.getD 107 undef, T.getD 111 undef] = _; rw [e0, e2, e6]) (HSet.out W (HFM.out W hC)) ?_
              rintro e w1 ⟨B0, B1, B2, B3, e0, e1, e2, e3, rfl, N, hc⟩
              exact ⟨_, rfl, hK.out _ w1 (ifn8 (by decide) (hC.trans (hc.mono hC.size))) (fun j t _ h => stF8_below hc j t h) ⟨B0, B1, B2, B3, e0, e1, e2, e3, (mask_put [112] 112 (by decide) _ _ _ (by rw [hT]; show 112 < 169; decide)), N.out⟩⟩
            · intro T W hT hs hC hF K hK
              obtain ⟨B0, B1, B2, B3, e0, e1, e2, e3, e96, N⟩ := hF 7 (by decide)
              have e96 : T.getD 112 undef = .agg #[.slice B0 256 e0, .slice B1 32 e1, .slice B2 256 e2, .slice B3 16 e3, .int .i64 mF.s] := e96
              have X := (HX.out W hC).2.1
              refine wp_store_row 31 (.tmp 3) (.tmp 112) rfl (w.heap.size + 1) #[.slice B0 256 e0, .slice B1 32 e1, .slice B2 256 e2, .slice B3 16 e3, .int .i64 mF.s] (hs 3 (by decide)) e96 31 #[.slice A0 256 c0, .slice A1 32 c1, .slice A2 256 c2, .slice A3 16 c3, .int .i64 m.s] X infoMem5 rfl one5 ?_
              exact hK.out _ _ (ifp8 ((Btw.of_below hC (w.heap.size + 1) (w.heap.size + 1 + 1)).trans (btw_rowS W _ _))) (fun j t n h => stF8_store X _ (by simp) j t n h) ⟨B0, B1, B2, B3, e0, e1, e2, e3, N.off X (by simp) (btw_rowS _ _ _), X.setRow _⟩
          · intro T W hT hs hC hF
            obtain ⟨B0, B1, B2, B3, e0, e1, e2, e3, N1, XZ⟩ := hF 8 (by decide)
            have hB : Btw (w.heap.size + 1) (w.heap.size + 1 + 1) Wd W := hC
            have v2 : T.getD 2 undef = .pointer (some ⟨w.heap.size, 0, none⟩) := hs 2 (by decide)
            have v3 : T.getD 3 undef = .pointer (some ⟨w.heap.size + 1, 0, none⟩) := hs 3 (by decide)
            have v4 : T.getD 4 undef = .pointer (some ⟨w.heap.size + 2, 0, none⟩) := hs 4 (by decide)
            have v5 : T.getD 5 undef = .pointer (some ⟨w.heap.size + 3, 0, none⟩) := hs 5 (by decide)
            have v8 : T.getD 8 undef = .pointer (some ⟨bx, 0, none⟩) := hs 8 (by decide)
            have v0 := hs 0 (by decide)
            conv at v0 => rhs; whnf
            have v1 := hs 1 (by decide)
            conv at v1 => rhs; whnf
            have v6 := hs 6 (by decide)
            conv at v6 => rhs; whnf
            have v7 := hs 7 (by decide)
            conv at v7 => rhs; whnf
            have v9 := hs 9 (by decide)
            conv at v9 => rhs; whnf
            have v10 := hs 10 (by decide)
            conv at v10 => rhs; whnf
            have v165 := hs 165 (by decide)
            conv at v165 => rhs; whnf
            have v166 := hs 166 (by decide)
            conv at v166 => rhs; whnf
            have v167 := hs 167 (by decide)
            conv at v167 => rhs; whnf
            have v168 := hs 168 (by decide)
            conv at v168 => rhs; whnf
            rw [lit169 T hT]
            simp only [v0, v1, v2, v3, v4, v5, v6, v7, v8, v9, v10, v165, v166, v167, v168]
            have NH := Lib.hid N1
            have XH := Lib.hid XZ
            clear N1 XZ hF hs hT hC v0 v1 v2 v3 v4 v5 v6 v7 v8 v9 v10 v165 v166 v167 v168
            have X61 := Lib.hid (XN.out.btw hB (by have := Z2.out; have := SX.out; have := Z16.out; have := Z48.out; have := Z57.out; omega))
            have X62 := Lib.hid (X51.out.btw hB (by have := Z2.out; have := SX.out; have := Z16.out; have := Z48.out; have := Z57.out; omega))
            have X63 := Lib.hid (X52.out.btw hB (by have := Z2.out; have := SX.out; have := Z16.out; have := Z48.out; have := Z57.out; omega))
            have X64 := Lib.hid (X53.out.btw hB (by have := Z2.out; have := SX.out; have := Z16.out; have := Z48.out; have := Z57.out; omega))
            have F65 := Lib.hid (NC.out.off X50.out (by simp) hB)
            have hb66 := Btw.lowSize hB hb56 (Nat.le_of_lt X50.out.lt) (by have := Z2.out; have := SX.out; have := Z16.out; have := Z48.out; have := Z57.out; omega)
            have Z67 : Hid (Wd.heap.size ≤ W.heap.size) := Lib.hid hB.size
            clear hB X50 XN X51 X52 X53 NC F55 hb56 HX HFC HFM
            go_wp2_with fail
            go_meet
            obtain ⟨g1, g2, g3⟩ := HF.out
            rw [g1, g3]
            exact ⟨A, c, B0, B1, B2, B3, e0, e1, e2, e3, rfl, Lib.hid hb66, X61, XH, X62, X63, F65, NH⟩
        · have HA := Lib.hid (fun W (q : RepC W A dn) => l08Alu8 A c dn m x1 x2 W hr q)
          unfold ReadsC at HA
          have h1 : dF = execD dn m 8 x1 x2 := HF.out.1
          rw [← h1] at HA
          clear h1
          have f61 := XN.out.cell 0 rfl
          have f62 := XN.out.cell 1 rfl
          have f63 := XN.out.cell 2 rfl
          have f64 := XN.out.cell 3 rfl
          have f65 := XN.out.cell 4 rfl
          have f66 := XN.out.cell 5 rfl
          have f67 := XN.out.cell 6 rfl
          have f68 := XN.out.cell 7 rfl
          have f69 := XN.out.cell 8 rfl
          have f70 := X53.out.cell 0 rfl
          have f71 := X53.out.cell 1 rfl
          have f72 := X53.out.cell 2 rfl
          go_wp2_with fail
          clear f61 f62 f63 f64 f65 f66 f67 f68 f69 f70 f71 f72
          refine (HA.out _ NC.out).mono ?_
          rintro e w3 ⟨Aa, ca, rfl, N1, hq3⟩
          have X73 := Lib.hid (XN.out.step hq3)
          have X74 := Lib.hid (X50.out.step hq3)
          have X75 := Lib.hid (X51.out.step hq3)
          have X76 := Lib.hid (X52.out.step hq3)
          have X77 := Lib.hid (X53.out.step hq3)
          have F78 := Lib.hid (NC.out.below hq3)
          have F79 := Lib.hid (F55.out.below hq3)
          have hb80 := bt hb56 hq3
          have Z81 : Hid (Wd.heap.size ≤ w3.heap.size) := Lib.hid hq3.size
          clear XN X50 X51 X52 X53 NC F55 hb56 hq3
          clear F78 HA
          have f82 := X73.out.cell 0 rfl
          have f83 := X73.out.cell 1 rfl
          have f84 := X73.out.cell 2 rfl
          have f85 := X73.out.cell 3 rfl
          have f86 := X73.out.cell 4 rfl
          have f87 := X73.out.cell 5 rfl
          have f88 := X73.out.cell 6 rfl
          have f89 := X73.out.cell 7 rfl
          have f90 := X73.out.cell 8 rfl
          have z91 := X73.out.frozen 0
          have z92 := X73.out.frozen 1
          have z93 := X73.out.frozen 2
          have z94 := X73.out.frozen 3
          have z95 := X73.out.frozen 4
          have z96 := X73.out.frozen 5
          have z97 := X73.out.frozen 6
          have z98 := X73.out.frozen 7
          have z99 := X73.out.frozen 8
          go_wp2_with fail
          go_meet
          obtain ⟨W100, hW100⟩ : ∃ W100, W100 = (((((((((w3.setCell ⟨w.heap.size, 0, none⟩ (.int .i64 dF.pc)).setCell ⟨w.heap.size, 1, none⟩ (.int .i64 dF.sp)).setCell ⟨w.heap.size, 2, none⟩ (.int .i64 dF.bank)).setCell ⟨w.heap.size, 3, none⟩ (.int .i64 dF.level)).setCell ⟨w.heap.size, 4, none⟩ (.bool dF.zero)).setCell ⟨w.heap.size, 5, none⟩ (.bool dF.carry)).setCell ⟨w.heap.size, 6, none⟩ (.bool dF.on)).setCell ⟨w.heap.size, 7, none⟩ (.bool dF.halt)).setCell ⟨w.heap.size, 8, none⟩ (.slice Aa 16 ca)) := ⟨_, rfl⟩
          have hB101 : Btw (w.heap.size) (w.heap.size + 1) w3 W100 := by rw [hW100]; exact (Btw.refl _ _ _).put.put.put.put.put.put.put.put.put
          have X102 : Hid (Box W100 (w.heap.size) 25 #[.int .i64 dF.pc, .int .i64 dF.sp, .int .i64 dF.bank, .int .i64 dF.level, .bool dF.zero, .bool dF.carry, .bool dF.on, .bool dF.halt, .slice Aa 16 ca]) := Lib.hid (by rw [hW100]; exact (X73.out.allN9 rfl _ _ _ _ _ _ _ _ _))
          have X103 := Lib.hid (X74.out.btw hB101 (by have := Z2.out; have := SX.out; have := Z16.out; have := Z48.out; have := Z57.out; have := Z81.out; omega))
          have X104 := Lib.hid (X75.out.btw hB101 (by have := Z2.out; have := SX.out; have := Z16.out; have := Z48.out; have := Z57.out; have := Z81.out; omega))
          have X105 := Lib.hid (X76.out.btw hB101 (by have := Z2.out; have := SX.out; have := Z16.out; have := Z48.out; have := Z57.out; have := Z81.out; omega))
          have X106 := Lib.hid (X77.out.btw hB101 (by have := Z2.out; have := SX.out; have := Z16.out; have := Z48.out; have := Z57.out; have := Z81.out; omega))
          have F107 := Lib.hid (N1.out.off X73.out (by simp) hB101)
          have F108 := Lib.hid (F79.out.off X73.out (by simp) hB101)
          have hb109 := Btw.lowSize hB101 hb80 (Nat.le_of_lt X73.out.lt) (by have := Z2.out; have := SX.out; have := Z16.out; have := Z48.out; have := Z57.out; have := Z81.out; omega)
          have Z110 : Hid (w3.heap.size ≤ W100.heap.size) := Lib.hid hB101.size
          rw [← hW100]
          clear hW100 hB101 X73 X74 X75 X76 X77 N1 F79 hb80
          obtain ⟨g1, g2, g3⟩ := HF.out
          rw [g2, g3]
          exact ⟨Aa, ca, A0, A1, A2, A3, c0, c1, c2, c3, rfl, Lib.hid hb109, X102, X103, X104, X105, F107, F108⟩
        · have HA := Lib.hid (fun W (q : RepC W A dn) => l08Alu9 A c dn m x1 x2 W hr q)
          unfold ReadsC at HA
          have h1 : dF = execD dn m 9 x1 x2 := HF.out.1
          rw [← h1] at HA
          clear h1
          have f61 := XN.out.cell 0 rfl
          have f62 := XN.out.cell 1 rfl
          have f63 := XN.out.cell 2 rfl
          have f64 := XN.out.cell 3 rfl
          have f65 := XN.out.cell 4 rfl
          have f66 := XN.out.cell 5 rfl
          have f67 := XN.out.cell 6 rfl
          have f68 := XN.out.cell 7 rfl
          have f69 := XN.out.cell 8 rfl
          have f70 := X53.out.cell 0 rfl
          have f71 := X53.out.cell 1 rfl
          have f72 := X53.out.cell 2 rfl
          go_wp2_with fail
          clear f61 f62 f63 f64 f65 f66 f67 f68 f69 f70 f71 f72
          refine (HA.out _ NC.out).mono ?_
          rintro e w3 ⟨Aa, ca, rfl, N1, hq3⟩
          have X73 := Lib.hid (XN.out.step hq3)
          have X74 := Lib.hid (X50.out.step hq3)
          have X75 := Lib.hid (X51.out.step hq3)
          have X76 := Lib.hid (X52.out.step hq3)
          have X77 := Lib.hid (X53.out.step hq3)
          have F78 := Lib.hid (NC.out.below hq3)
          have F79 := Lib.hid (F55.out.below hq3)
          have hb80 := bt hb56 hq3
          have Z81 : Hid (Wd.heap.size ≤ w3.heap.size) := Lib.hid hq3.size
          clear XN X50 X51 X52 X53 NC F55 hb56 hq3
          clear F78 HA
          have f82 := X73.out.cell 0 rfl
          have f83 := X73.out.cell 1 rfl
          have f84 := X73.out.cell 2 rfl
          have f85 := X73.out.cell 3 rfl
          have f86 := X73.out.cell 4 rfl
          have f87 := X73.out.cell 5 rfl
          have f88 := X73.out.cell 6 rfl
          have f89 := X73.out.cell 7 rfl
          have f90 := X73.out.cell 8 rfl
          have z91 := X73.out.frozen 0
          have z92 := X73.out.frozen 1
          have z93 := X73.out.frozen 2
          have z94 := X73.out.frozen 3
          have z95 := X73.out.frozen 4
          have z96 := X73.out.frozen 5
          have z97 := X73.out.frozen 6
          have z98 := X73.out.frozen 7
          have z99 := X73.out.frozen 8
          go_wp2_with fail
          go_meet
          obtain ⟨W100, hW100⟩ : ∃ W100, W100 = (((((((((w3.setCell ⟨w.heap.size, 0, none⟩ (.int .i64 dF.pc)).setCell ⟨w.heap.size, 1, none⟩ (.int .i64 dF.sp)).setCell ⟨w.heap.size, 2, none⟩ (.int .i64 dF.bank)).setCell ⟨w.heap.size, 3, none⟩ (.int .i64 dF.level)).setCell ⟨w.heap.size, 4, none⟩ (.bool dF.zero)).setCell ⟨w.heap.size, 5, none⟩ (.bool dF.carry)).setCell ⟨w.heap.size, 6, none⟩ (.bool dF.on)).setCell ⟨w.heap.size, 7, none⟩ (.bool dF.halt)).setCell ⟨w.heap.size, 8, none⟩ (.slice Aa 16 ca)) := ⟨_, rfl⟩
          have hB101 : Btw (w.heap.size) (w.heap.size + 1) w3 W100 := by rw [hW100]; exact (Btw.refl _ _ _).put.put.put.put.put.put.put.put.put
          have X102 : Hid (Box W100 (w.heap.size) 25 #[.int .i64 dF.pc, .int .i64 dF.sp, .int .i64 dF.bank, .int .i64 dF.level, .bool dF.zero, .bool dF.carry, .bool dF.on, .bool dF.halt, .slice Aa 16 ca]) := Lib.hid (by rw [hW100]; exact (X73.out.allN9 rfl _ _ _ _ _ _ _ _ _))
          have X103 := Lib.hid (X74.out.btw hB101 (by have := Z2.out; have := SX.out; have := Z16.out; have := Z48.out; have := Z57.out; have := Z81.out; omega))
          have X104 := Lib.hid (X75.out.btw hB101 (by have := Z2.out; have := SX.out; have := Z16.out; have := Z48.out; have := Z57.out; have := Z81.out; omega))
          have X105 := Lib.hid (X76.out.btw hB101 (by have := Z2.out; have := SX.out; have := Z16.out; have := Z48.out; have := Z57.out; have := Z81.out; omega))
          have X106 := Lib.hid (X77.out.btw hB101 (by have := Z2.out; have := SX.out; have := Z16.out; have := Z48.out; have := Z57.out; have := Z81.out; omega))
          have F107 := Lib.hid (N1.out.off X73.out (by simp) hB101)
          have F108 := Lib.hid (F79.out.off X73.out (by simp) hB101)
          have hb109 := Btw.lowSize hB101 hb80 (Nat.le_of_lt X73.out.lt) (by have := Z2.out; have := SX.out; have := Z16.out; have := Z48.out; have := Z57.out; have := Z81.out; omega)
          have Z110 : Hid (w3.heap.size ≤ W100.heap.size) := Lib.hid hB101.size
          rw [← hW100]
          clear hW100 hB101 X73 X74 X75 X76 X77 N1 F79 hb80
          obtain ⟨g1, g2, g3⟩ := HF.out
          rw [g2, g3]
          exact ⟨Aa, ca, A0, A1, A2, A3, c0, c1, c2, c3, rfl, Lib.hid hb109, X102, X103, X104, X105, F107, F108⟩
        · have HA := Lib.hid (fun W (q : RepC W A dn) => l08Alu10 A c dn m x1 x2 W hr q)
          unfold ReadsC at HA
          have h1 : dF = execD dn m 10 x1 x2 := HF.out.1
          rw [← h1] at HA
          clear h1
          have f61 := XN.out.cell 0 rfl
          have f62 := XN.out.cell 1 rfl
          have f63 := XN.out.cell 2 rfl
          have f64 := XN.out.cell 3 rfl
          have f65 := XN.out.cell 4 rfl
          have f66 := XN.out.cell 5 rfl
          have f67 := XN.out.cell 6 rfl
          have f68 := XN.out.cell 7 rfl
          have f69 := XN.out.cell 8 rfl
          have f70 := X53.out.cell 0 rfl
          have f71 := X53.out.cell 1 rfl
          have f72 := X53.out.cell 2 rfl
          go_wp2_with fail
          clear f61 f62 f63 f64 f65 f66 f67 f68 f69 f70 f71 f72
          refine (HA.out _ NC.out).mono ?_
          rintro e w3 ⟨Aa, ca, rfl, N1, hq3⟩
          have X73 := Lib.hid (XN.out.step hq3)
          have X74 := Lib.hid (X50.out.step hq3)
          have X75 := Lib.hid (X51.out.step hq3)
          have X76 := Lib.hid (X52.out.step hq3)
          have X77 := Lib.hid (X53.out.step hq3)
          have F78 := Lib.hid (NC.out.below hq3)
          have F79 := Lib.hid (F55.out.below hq3)
          have hb80 := bt hb56 hq3
          have Z81 : Hid (Wd.heap.size ≤ w3.heap.size) := Lib.hid hq3.size
          clear XN X50 X51 X52 X53 NC F55 hb56 hq3
          clear F78 HA
          have f82 := X73.out.cell 0 rfl
          have f83 := X73.out.cell 1 rfl
          have f84 := X73.out.cell 2 rfl
          have f85 := X73.out.cell 3 rfl
          have f86 := X73.out.cell 4 rfl
          have f87 := X73.out.cell 5 rfl
          have f88 := X73.out.cell 6 rfl
          have f89 := X73.out.cell 7 rfl
          have f90 := X73.out.cell 8 rfl
          have z91 := X73.out.frozen 0
          have z92 := X73.out.frozen 1
          have z93 := X73.out.frozen 2
          have z94 := X73.out.frozen 3
          have z95 := X73.out.frozen 4
          have z96 := X73.out.frozen 5
          have z97 := X73.out.frozen 6
          have z98 := X73.out.frozen 7
          have z99 := X73.out.frozen 8
          go_wp2_with fail
          go_meet
          obtain ⟨W100, hW100⟩ : ∃ W100, W100 = (((((((((w3.setCell ⟨w.heap.size, 0, none⟩ (.int .i64 dF.pc)).setCell ⟨w.heap.size, 1, none⟩ (.int .i64 dF.sp)).setCell ⟨w.heap.size, 2, none⟩ (.int .i64 dF.bank)).setCell ⟨w.heap.size, 3, none⟩ (.int .i64 dF.level)).setCell ⟨w.heap.size, 4, none⟩ (.bool dF.zero)).setCell ⟨w.heap.size, 5, none⟩ (.bool dF.carry)).setCell ⟨w.heap.size, 6, none⟩ (.bool dF.on)).setCell ⟨w.heap.size, 7, none⟩ (.bool dF.halt)).setCell ⟨w.heap.size, 8, none⟩ (.slice Aa 16 ca)) := ⟨_, rfl⟩
          have hB101 : Btw (w.heap.size) (w.heap.size + 1) w3 W100 := by rw [hW100]; exact (Btw.refl _ _ _).put.put.put.put.put.put.put.put.put
          have X102 : Hid (Box W100 (w.heap.size) 25 #[.int .i64 dF.pc, .int .i64 dF.sp, .int .i64 dF.bank, .int .i64 dF.level, .bool dF.zero, .bool dF.carry, .bool dF.on, .bool dF.halt, .slice Aa 16 ca]) := Lib.hid (by rw [hW100]; exact (X73.out.allN9 rfl _ _ _ _ _ _ _ _ _))
          have X103 := Lib.hid (X74.out.btw hB101 (by have := Z2.out; have := SX.out; have := Z16.out; have := Z48.out; have := Z57.out; have := Z81.out; omega))
          have X104 := Lib.hid (X75.out.btw hB101 (by have := Z2.out; have := SX.out; have := Z16.out; have := Z48.out; have := Z57.out; have := Z81.out; omega))
          have X105 := Lib.hid (X76.out.btw hB101 (by have := Z2.out; have := SX.out; have := Z16.out; have := Z48.out; have := Z57.out; have := Z81.out; omega))
          have X106 := Lib.hid (X77.out.btw hB101 (by have := Z2.out; have := SX.out; have := Z16.out; have := Z48.out; have := Z57.out; have := Z81.out; omega))
          have F107 := Lib.hid (N1.out.off X73.out (by simp) hB101)
          have F108 := Lib.hid (F79.out.off X73.out (by simp) hB101)
          have hb109 := Btw.lowSize hB101 hb80 (Nat.le_of_lt X73.out.lt) (by have := Z2.out; have := SX.out; have := Z16.out; have := Z48.out; have := Z57.out; have := Z81.out; omega)
          have Z110 : Hid (w3.heap.size ≤ W100.heap.size) := Lib.hid hB101.size
          rw [← hW100]
          clear hW100 hB101 X73 X74 X75 X76 X77 N1 F79 hb80
          obtain ⟨g1, g2, g3⟩ := HF.out
          rw [g2, g3]
          exact ⟨Aa, ca, A0, A1, A2, A3, c0, c1, c2, c3, rfl, Lib.hid hb109, X102, X103, X104, X105, F107, F108⟩
        · have HA := Lib.hid (fun W (q : RepC W A dn) => l08Alu11 A c dn m x1 x2 W hr q)
          unfold ReadsC at HA
          have h1 : dF = execD dn m 11 x1 x2 := HF.out.1
          rw [← h1] at HA
          clear h1
          have f61 := XN.out.cell 0 rfl
          have f62 := XN.out.cell 1 rfl
          have f63 := XN.out.cell 2 rfl
          have f64 := XN.out.cell 3 rfl
          have f65 := XN.out.cell 4 rfl
          have f66 := XN.out.cell 5 rfl
          have f67 := XN.out.cell 6 rfl
          have f68 := XN.out.cell 7 rfl
          have f69 := XN.out.cell 8 rfl
          have f70 := X53.out.cell 0 rfl
          have f71 := X53.out.cell 1 rfl
          have f72 := X53.out.cell 2 rfl
          go_wp2_with fail
          clear f61 f62 f63 f64 f65 f66 f67 f68 f69 f70 f71 f72
          refine (HA.out _ NC.out).mono ?_
          rintro e w3 ⟨Aa, ca, rfl, N1, hq3⟩
          have X73 := Lib.hid (XN.out.step hq3)
          have X74 := Lib.hid (X50.out.step hq3)
          have X75 := Lib.hid (X51.out.step hq3)
          have X76 := Lib.hid (X52.out.step hq3)
          have X77 := Lib.hid (X53.out.step hq3)
          have F78 := Lib.hid (NC.out.below hq3)
          have F79 := Lib.hid (F55.out.below hq3)
          have hb80 := bt hb56 hq3
          have Z81 : Hid (Wd.heap.size ≤ w3.heap.size) := Lib.hid hq3.size
          clear XN X50 X51 X52 X53 NC F55 hb56 hq3
          clear F78 HA
          have f82 := X73.out.cell 0 rfl
          have f83 := X73.out.cell 1 rfl
          have f84 := X73.out.cell 2 rfl
          have f85 := X73.out.cell 3 rfl
          have f86 := X73.out.cell 4 rfl
          have f87 := X73.out.cell 5 rfl
          have f88 := X73.out.cell 6 rfl
          have f89 := X73.out.cell 7 rfl
          have f90 := X73.out.cell 8 rfl
          have z91 := X73.out.frozen 0
          have z92 := X73.out.frozen 1
          have z93 := X73.out.frozen 2
          have z94 := X73.out.frozen 3
          have z95 := X73.out.frozen 4
          have z96 := X73.out.frozen 5
          have z97 := X73.out.frozen 6
          have z98 := X73.out.frozen 7
          have z99 := X73.out.frozen 8
          go_wp2_with fail
          go_meet
          obtain ⟨W100, hW100⟩ : ∃ W100, W100 = (((((((((w3.setCell ⟨w.heap.size, 0, none⟩ (.int .i64 dF.pc)).setCell ⟨w.heap.size, 1, none⟩ (.int .i64 dF.sp)).setCell ⟨w.heap.size, 2, none⟩ (.int .i64 dF.bank)).setCell ⟨w.heap.size, 3, none⟩ (.int .i64 dF.level)).setCell ⟨w.heap.size, 4, none⟩ (.bool dF.zero)).setCell ⟨w.heap.size, 5, none⟩ (.bool dF.carry)).setCell ⟨w.heap.size, 6, none⟩ (.bool dF.on)).setCell ⟨w.heap.size, 7, none⟩ (.bool dF.halt)).setCell ⟨w.heap.size, 8, none⟩ (.slice Aa 16 ca)) := ⟨_, rfl⟩
          have hB101 : Btw (w.heap.size) (w.heap.size + 1) w3 W100 := by rw [hW100]; exact (Btw.refl _ _ _).put.put.put.put.put.put.put.put.put
          have X102 : Hid (Box W100 (w.heap.size) 25 #[.int .i64 dF.pc, .int .i64 dF.sp, .int .i64 dF.bank, .int .i64 dF.level, .bool dF.zero, .bool dF.carry, .bool dF.on, .bool dF.halt, .slice Aa 16 ca]) := Lib.hid (by rw [hW100]; exact (X73.out.allN9 rfl _ _ _ _ _ _ _ _ _))
          have X103 := Lib.hid (X74.out.btw hB101 (by have := Z2.out; have := SX.out; have := Z16.out; have := Z48.out; have := Z57.out; have := Z81.out; omega))
          have X104 := Lib.hid (X75.out.btw hB101 (by have := Z2.out; have := SX.out; have := Z16.out; have := Z48.out; have := Z57.out; have := Z81.out; omega))
          have X105 := Lib.hid (X76.out.btw hB101 (by have := Z2.out; have := SX.out; have := Z16.out; have := Z48.out; have := Z57.out; have := Z81.out; omega))
          have X106 := Lib.hid (X77.out.btw hB101 (by have := Z2.out; have := SX.out; have := Z16.out; have := Z48.out; have := Z57.out; have := Z81.out; omega))
          have F107 := Lib.hid (N1.out.off X73.out (by simp) hB101)
          have F108 := Lib.hid (F79.out.off X73.out (by simp) hB101)
          have hb109 := Btw.lowSize hB101 hb80 (Nat.le_of_lt X73.out.lt) (by have := Z2.out; have := SX.out; have := Z16.out; have := Z48.out; have := Z57.out; have := Z81.out; omega)
          have Z110 : Hid (w3.heap.size ≤ W100.heap.size) := Lib.hid hB101.size
          rw [← hW100]
          clear hW100 hB101 X73 X74 X75 X76 X77 N1 F79 hb80
          obtain ⟨g1, g2, g3⟩ := HF.out
          rw [g2, g3]
          exact ⟨Aa, ca, A0, A1, A2, A3, c0, c1, c2, c3, rfl, Lib.hid hb109, X102, X103, X104, X105, F107, F108⟩
        · have HA := Lib.hid (fun W (q : RepC W A dn) => l08Alu12 A c dn m x1 x2 W hr q)
          unfold ReadsC at HA
          have h1 : dF = execD dn m 12 x1 x2 := HF.out.1
          rw [← h1] at HA
          clear h1
          have f61 := XN.out.cell 0 rfl
          have f62 := XN.out.cell 1 rfl
          have f63 := XN.out.cell 2 rfl
          have f64 := XN.out.cell 3 rfl
          have f65 := XN.out.cell 4 rfl
          have f66 := XN.out.cell 5 rfl
          have f67 := XN.out.cell 6 rfl
          have f68 := XN.out.cell 7 rfl
          have f69 := XN.out.cell 8 rfl
          have f70 := X53.out.cell 0 rfl
          have f71 := X53.out.cell 1 rfl
          have f72 := X53.out.cell 2 rfl
          go_wp2_with fail
          clear f61 f62 f63 f64 f65 f66 f67 f68 f69 f70 f71 f72
          refine (HA.out _ NC.out).mono ?_
          rintro e w3 ⟨Aa, ca, rfl, N1, hq3⟩
          have X73 := Lib.hid (XN.out.step hq3)
          have X74 := Lib.hid (X50.out.step hq3)
          have X75 := Lib.hid (X51.out.step hq3)
          have X76 := Lib.hid (X52.out.step hq3)
          have X77 := Lib.hid (X53.out.step hq3)
          have F78 := Lib.hid (NC.out.below hq3)
          have F79 := Lib.hid (F55.out.below hq3)
          have hb80 := bt hb56 hq3
          have Z81 : Hid (Wd.heap.size ≤ w3.heap.size) := Lib.hid hq3.size
          clear XN X50 X51 X52 X53 NC F55 hb56 hq3
          clear F78 HA
          have f82 := X73.out.cell 0 rfl
          have f83 := X73.out.cell 1 rfl
          have f84 := X73.out.cell 2 rfl
          have f85 := X73.out.cell 3 rfl
          have f86 := X73.out.cell 4 rfl
          have f87 := X73.out.cell 5 rfl
          have f88 := X73.out.cell 6 rfl
          have f89 := X73.out.cell 7 rfl
          have f90 := X73.out.cell 8 rfl
          have z91 := X73.out.frozen 0
          have z92 := X73.out.frozen 1
          have z93 := X73.out.frozen 2
          have z94 := X73.out.frozen 3
          have z95 := X73.out.frozen 4
          have z96 := X73.out.frozen 5
          have z97 := X73.out.frozen 6
          have z98 := X73.out.frozen 7
          have z99 := X73.out.frozen 8
          go_wp2_with fail
          go_meet
          obtain ⟨W100, hW100⟩ : ∃ W100, W100 = (((((((((w3.setCell ⟨w.heap.size, 0, none⟩ (.int .i64 dF.pc)).setCell ⟨w.heap.size, 1, none⟩ (.int .i64 dF.sp)).setCell ⟨w.heap.size, 2, none⟩ (.int .i64 dF.bank)).setCell ⟨w.heap.size, 3, none⟩ (.int .i64 dF.level)).setCell ⟨w.heap.size, 4, none⟩ (.bool dF.zero)).setCell ⟨w.heap.size, 5, none⟩ (.bool dF.carry)).setCell ⟨w.heap.size, 6, none⟩ (.bool dF.on)).setCell ⟨w.heap.size, 7, none⟩ (.bool dF.halt)).setCell ⟨w.heap.size, 8, none⟩ (.slice Aa 16 ca)) := ⟨_, rfl⟩
          have hB101 : Btw (w.heap.size) (w.heap.size + 1) w3 W100 := by rw [hW100]; exact (Btw.refl _ _ _).put.put.put.put.put.put.put.put.put
          have X102 : Hid (Box W100 (w.heap.size) 25 #[.int .i64 dF.pc, .int .i64 dF.sp, .int .i64 dF.bank, .int .i64 dF.level, .bool dF.zero, .bool dF.carry, .bool dF.on, .bool dF.halt, .slice Aa 16 ca]) := Lib.hid (by rw [hW100]; exact (X73.out.allN9 rfl _ _ _ _ _ _ _ _ _))
          have X103 := Lib.hid (X74.out.btw hB101 (by have := Z2.out; have := SX.out; have := Z16.out; have := Z48.out; have := Z57.out; have := Z81.out; omega))
          have X104 := Lib.hid (X75.out.btw hB101 (by have := Z2.out; have := SX.out; have := Z16.out; have := Z48.out; have := Z57.out; have := Z81.out; omega))
          have X105 := Lib.hid (X76.out.btw hB101 (by have := Z2.out; have := SX.out; have := Z16.out; have := Z48.out; have := Z57.out; have := Z81.out; omega))
          have X106 := Lib.hid (X77.out.btw hB101 (by have := Z2.out; have := SX.out; have := Z16.out; have := Z48.out; have := Z57.out; have := Z81.out; omega))
          have F107 := Lib.hid (N1.out.off X73.out (by simp) hB101)
          have F108 := Lib.hid (F79.out.off X73.out (by simp) hB101)
          have hb109 := Btw.lowSize hB101 hb80 (Nat.le_of_lt X73.out.lt) (by have := Z2.out; have := SX.out; have := Z16.out; have := Z48.out; have := Z57.out; have := Z81.out; omega)
          have Z110 : Hid (w3.heap.size ≤ W100.heap.size) := Lib.hid hB101.size
          rw [← hW100]
          clear hW100 hB101 X73 X74 X75 X76 X77 N1 F79 hb80
          obtain ⟨g1, g2, g3⟩ := HF.out
          rw [g2, g3]
          exact ⟨Aa, ca, A0, A1, A2, A3, c0, c1, c2, c3, rfl, Lib.hid hb109, X102, X103, X104, X105, F107, F108⟩
        · have HA := Lib.hid (fun W (q : RepC W A dn) => l08Alu13 A c dn m x1 x2 W hr q)
          unfold ReadsC at HA
          have h1 : dF = execD dn m 13 x1 x2 := HF.out.1
          rw [← h1] at HA
          clear h1
          have f61 := XN.out.cell 0 rfl
          have f62 := XN.out.cell 1 rfl
          have f63 := XN.out.cell 2 rfl
          have f64 := XN.out.cell 3 rfl
          have f65 := XN.out.cell 4 rfl
          have f66 := XN.out.cell 5 rfl
          have f67 := XN.out.cell 6 rfl
          have f68 := XN.out.cell 7 rfl
          have f69 := XN.out.cell 8 rfl
          have f70 := X53.out.cell 0 rfl
          have f71 := X53.out.cell 1 rfl
          have f72 := X53.out.cell 2 rfl
          go_wp2_with fail
          clear f61 f62 f63 f64 f65 f66 f67 f68 f69 f70 f71 f72
          refine (HA.out _ NC.out).mono ?_
          rintro e w3 ⟨Aa, ca, rfl, N1, hq3⟩
          have X73 := Lib.hid (XN.out.step hq3)
          have X74 := Lib.hid (X50.out.step hq3)
          have X75 := Lib.hid (X51.out.step hq3)
          have X76 := Lib.hid (X52.out.step hq3)
          have X77 := Lib.hid (X53.out.step hq3)
          have F78 := Lib.hid (NC.out.below hq3)
          have F79 := Lib.hid (F55.out.below hq3)
          have hb80 := bt hb56 hq3
          have Z81 : Hid (Wd.heap.size ≤ w3.heap.size) := Lib.hid hq3.size
          clear XN X50 X51 X52 X53 NC F55 hb56 hq3
          clear F78 HA
          have f82 := X73.out.cell 0 rfl
          have f83 := X73.out.cell 1 rfl
          have f84 := X73.out.cell 2 rfl
          have f85 := X73.out.cell 3 rfl
          have f86 := X73.out.cell 4 rfl
          have f87 := X73.out.cell 5 rfl
          have f88 := X73.out.cell 6 rfl
          have f89 := X73.out.cell 7 rfl
          have f90 := X73.out.cell 8 rfl
          have z91 := X73.out.frozen 0
          have z92 := X73.out.frozen 1
          have z93 := X73.out.frozen 2
          have z94 := X73.out.frozen 3
          have z95 := X73.out.frozen 4
          have z96 := X73.out.frozen 5
          have z97 := X73.out.frozen 6
          have z98 := X73.out.frozen 7
          have z99 := X73.out.frozen 8
          go_wp2_with fail
          go_meet
          obtain ⟨W100, hW100⟩ : ∃ W100, W100 = (((((((((w3.setCell ⟨w.heap.size, 0, none⟩ (.int .i64 dF.pc)).setCell ⟨w.heap.size, 1, none⟩ (.int .i64 dF.sp)).setCell ⟨w.heap.size, 2, none⟩ (.int .i64 dF.bank)).setCell ⟨w.heap.size, 3, none⟩ (.int .i64 dF.level)).setCell ⟨w.heap.size, 4, none⟩ (.bool dF.zero)).setCell ⟨w.heap.size, 5, none⟩ (.bool dF.carry)).setCell ⟨w.heap.size, 6, none⟩ (.bool dF.on)).setCell ⟨w.heap.size, 7, none⟩ (.bool dF.halt)).setCell ⟨w.heap.size, 8, none⟩ (.slice Aa 16 ca)) := ⟨_, rfl⟩
          have hB101 : Btw (w.heap.size) (w.heap.size + 1) w3 W100 := by rw [hW100]; exact (Btw.refl _ _ _).put.put.put.put.put.put.put.put.put
          have X102 : Hid (Box W100 (w.heap.size) 25 #[.int .i64 dF.pc, .int .i64 dF.sp, .int .i64 dF.bank, .int .i64 dF.level, .bool dF.zero, .bool dF.carry, .bool dF.on, .bool dF.halt, .slice Aa 16 ca]) := Lib.hid (by rw [hW100]; exact (X73.out.allN9 rfl _ _ _ _ _ _ _ _ _))
          have X103 := Lib.hid (X74.out.btw hB101 (by have := Z2.out; have := SX.out; have := Z16.out; have := Z48.out; have := Z57.out; have := Z81.out; omega))
          have X104 := Lib.hid (X75.out.btw hB101 (by have := Z2.out; have := SX.out; have := Z16.out; have := Z48.out; have := Z57.out; have := Z81.out; omega))
          have X105 := Lib.hid (X76.out.btw hB101 (by have := Z2.out; have := SX.out; have := Z16.out; have := Z48.out; have := Z57.out; have := Z81.out; omega))
          have X106 := Lib.hid (X77.out.btw hB101 (by have := Z2.out; have := SX.out; have := Z16.out; have := Z48.out; have := Z57.out; have := Z81.out; omega))
          have F107 := Lib.hid (N1.out.off X73.out (by simp) hB101)
          have F108 := Lib.hid (F79.out.off X73.out (by simp) hB101)
          have hb109 := Btw.lowSize hB101 hb80 (Nat.le_of_lt X73.out.lt) (by have := Z2.out; have := SX.out; have := Z16.out; have := Z48.out; have := Z57.out; have := Z81.out; omega)
          have Z110 : Hid (w3.heap.size ≤ W100.heap.size) := Lib.hid hB101.size
          rw [← hW100]
          clear hW100 hB101 X73 X74 X75 X76 X77 N1 F79 hb80
          obtain ⟨g1, g2, g3⟩ := HF.out
          rw [g2, g3]
          exact ⟨Aa, ca, A0, A1, A2, A3, c0, c1, c2, c3, rfl, Lib.hid hb109, X102, X103, X104, X105, F107, F108⟩
        · have HA := Lib.hid (fun W (q : RepC W A dn) => l08Alu14 A c dn m x1 x2 W hr q)
          unfold ReadsC at HA
          have h1 : dF = execD dn m 14 x1 x2 := HF.out.1
          rw [← h1] at HA
          clear h1
          have f61 := XN.out.cell 0 rfl
          have f62 := XN.out.cell 1 rfl
          have f63 := XN.out.cell 2 rfl
          have f64 := XN.out.cell 3 rfl
          have f65 := XN.out.cell 4 rfl
          have f66 := XN.out.cell 5 rfl
          have f67 := XN.out.cell 6 rfl
          have f68 := XN.out.cell 7 rfl
          have f69 := XN.out.cell 8 rfl
          have f70 := X53.out.cell 0 rfl
          have f71 := X53.out.cell 1 rfl
          have f72 := X53.out.cell 2 rfl
          go_wp2_with fail
          clear f61 f62 f63 f64 f65 f66 f67 f68 f69 f70 f71 f72
          refine (HA.out _ NC.out).mono ?_
          rintro e w3 ⟨Aa, ca, rfl, N1, hq3⟩
          have X73 := Lib.hid (XN.out.step hq3)
          have X74 := Lib.hid (X50.out.step hq3)
          have X75 := Lib.hid (X51.out.step hq3)
          have X76 := Lib.hid (X52.out.step hq3)
          have X77 := Lib.hid (X53.out.step hq3)
          have F78 := Lib.hid (NC.out.below hq3)
          have F79 := Lib.hid (F55.out.below hq3)
          have hb80 := bt hb56 hq3
          have Z81 : Hid (Wd.heap.size ≤ w3.heap.size) := Lib.hid hq3.size
          clear XN X50 X51 X52 X53 NC F55 hb56 hq3
          clear F78 HA
          have f82 := X73.out.cell 0 rfl
          have f83 := X73.out.cell 1 rfl
          have f84 := X73.out.cell 2 rfl
          have f85 := X73.out.cell 3 rfl
          have f86 := X73.out.cell 4 rfl
          have f87 := X73.out.cell 5 rfl
          have f88 := X73.out.cell 6 rfl
          have f89 := X73.out.cell 7 rfl
          have f90 := X73.out.cell 8 rfl
          have z91 := X73.out.frozen 0
          have z92 := X73.out.frozen 1
          have z93 := X73.out.frozen 2
          have z94 := X73.out.frozen 3
          have z95 := X73.out.frozen 4
          have z96 := X73.out.frozen 5
          have z97 := X73.out.frozen 6
          have z98 := X73.out.frozen 7
          have z99 := X73.out.frozen 8
          go_wp2_with fail
          go_meet
          obtain ⟨W100, hW100⟩ : ∃ W100, W100 = (((((((((w3.setCell ⟨w.heap.size, 0, none⟩ (.int .i64 dF.pc)).setCell ⟨w.heap.size, 1, none⟩ (.int .i64 dF.sp)).setCell ⟨w.heap.size, 2, none⟩ (.int .i64 dF.bank)).setCell ⟨w.heap.size, 3, none⟩ (.int .i64 dF.level)).setCell ⟨w.heap.size, 4, none⟩ (.bool dF.zero)).setCell ⟨w.heap.size, 5, none⟩ (.bool dF.carry)).setCell ⟨w.heap.size, 6, none⟩ (.bool dF.on)).setCell ⟨w.heap.size, 7, none⟩ (.bool dF.halt)).setCell ⟨w.heap.size, 8, none⟩ (.slice Aa 16 ca)) := ⟨_, rfl⟩
          have hB101 : Btw (w.heap.size) (w.heap.size + 1) w3 W100 := by rw [hW100]; exact (Btw.refl _ _ _).put.put.put.put.put.put.put.put.put
          have X102 : Hid (Box W100 (w.heap.size) 25 #[.int .i64 dF.pc, .int .i64 dF.sp, .int .i64 dF.bank, .int .i64 dF.level, .bool dF.zero, .bool dF.carry, .bool dF.on, .bool dF.halt, .slice Aa 16 ca]) := Lib.hid (by rw [hW100]; exact (X73.out.allN9 rfl _ _ _ _ _ _ _ _ _))
          have X103 := Lib.hid (X74.out.btw hB101 (by have := Z2.out; have := SX.out; have := Z16.out; have := Z48.out; have := Z57.out; have := Z81.out; omega))
          have X104 := Lib.hid (X75.out.btw hB101 (by have := Z2.out; have := SX.out; have := Z16.out; have := Z48.out; have := Z57.out; have := Z81.out; omega))
          have X105 := Lib.hid (X76.out.btw hB101 (by have := Z2.out; have := SX.out; have := Z16.out; have := Z48.out; have := Z57.out; have := Z81.out; omega))
          have X106 := Lib.hid (X77.out.btw hB101 (by have := Z2.out; have := SX.out; have := Z16.out; have := Z48.out; have := Z57.out; have := Z81.out; omega))
          have F107 := Lib.hid (N1.out.off X73.out (by simp) hB101)
          have F108 := Lib.hid (F79.out.off X73.out (by simp) hB101)
          have hb109 := Btw.lowSize hB101 hb80 (Nat.le_of_lt X73.out.lt) (by have := Z2.out; have := SX.out; have := Z16.out; have := Z48.out; have := Z57.out; have := Z81.out; omega)
          have Z110 : Hid (w3.heap.size ≤ W100.heap.size) := Lib.hid hB101.size
          rw [← hW100]
          clear hW100 hB101 X73 X74 X75 X76 X77 N1 F79 hb80
          obtain ⟨g1, g2, g3⟩ := HF.out
          rw [g2, g3]
          exact ⟨Aa, ca, A0, A1, A2, A3, c0, c1, c2, c3, rfl, Lib.hid hb109, X102, X103, X104, X105, F107, F108⟩
        · have f61 := XN.out.cell 0 rfl
          have f62 := XN.out.cell 1 rfl
          have f63 := XN.out.cell 2 rfl
          have f64 := XN.out.cell 3 rfl
          have f65 := XN.out.cell 4 rfl
          have f66 := XN.out.cell 5 rfl
          have f67 := XN.out.cell 6 rfl
          have f68 := XN.out.cell 7 rfl
          have f69 := XN.out.cell 8 rfl
          have f70 := X53.out.cell 0 rfl
          have f71 := X53.out.cell 1 rfl
          have f72 := X53.out.cell 2 rfl
          have z73 := XN.out.frozen 0
          have z74 := XN.out.frozen 1
          have z75 := XN.out.frozen 2
          have z76 := XN.out.frozen 3
          have z77 := XN.out.frozen 4
          have z78 := XN.out.frozen 5
          have z79 := XN.out.frozen 6
          have z80 := XN.out.frozen 7
          have z81 := XN.out.frozen 8
          go_wp2_with fail
          go_meet
          obtain ⟨W82, hW82⟩ : ∃ W82, W82 = (Wd.setCell ⟨w.heap.size, 0, none⟩ (.int .i64 x2)) := ⟨_, rfl⟩
          have hB83 : Btw (w.heap.size) (w.heap.size + 1) Wd W82 := by rw [hW82]; exact (Btw.refl _ _ _).put
          have X84 : Hid (Box W82 (w.heap.size) 25 #[.int .i64 x2, .int .i64 dn.sp, .int .i64 dn.bank, .int .i64 dn.level, .bool dn.zero, .bool dn.carry, .bool dn.on, .bool dn.halt, .slice A 16 c]) := Lib.hid (by rw [hW82]; exact (XN.out.set 0 _))
          have X85 := Lib.hid (X50.out.btw hB83 (by have := Z2.out; have := SX.out; have := Z16.out; have := Z48.out; have := Z57.out; omega))
          have X86 := Lib.hid (X51.out.btw hB83 (by have := Z2.out; have := SX.out; have := Z16.out; have := Z48.out; have := Z57.out; omega))
          have X87 := Lib.hid (X52.out.btw hB83 (by have := Z2.out; have := SX.out; have := Z16.out; have := Z48.out; have := Z57.out; omega))
          have X88 := Lib.hid (X53.out.btw hB83 (by have := Z2.out; have := SX.out; have := Z16.out; have := Z48.out; have := Z57.out; omega))
          have F89 := Lib.hid (NC.out.off XN.out (by simp) hB83)
          have F90 := Lib.hid (F55.out.off XN.out (by simp) hB83)
          have hb91 := Btw.lowSize hB83 hb56 (Nat.le_of_lt XN.out.lt) (by have := Z2.out; have := SX.out; have := Z16.out; have := Z48.out; have := Z57.out; omega)
          have Z92 : Hid (Wd.heap.size ≤ W82.heap.size) := Lib.hid hB83.size
          rw [← hW82]
          clear hW82 hB83 XN X50 X51 X52 X53 NC F55 hb56
          obtain ⟨g1, g2, g3⟩ := HF.out
          rw [g1, g2, g3]
          exact ⟨A, c, A0, A1, A2, A3, c0, c1, c2, c3, rfl, Lib.hid hb91, X84, X85, X86, X87, Lib.hid ⟨hO.exec (m := m) hi0, F89.out.2⟩, F90⟩
        · by_cases hz : dn.zero = true
          · have g0 : dF = dn.at x2 := by rw [HF.out.1, execD_16, hz]; rfl
            have HZ := Lib.hid (And.intro g0 hz)
            have f61 := XN.out.cell 0 rfl
            have f62 := XN.out.cell 1 rfl
            have f63 := XN.out.cell 2 rfl
            have f64 := XN.out.cell 3 rfl
            have f65 := XN.out.cell 4 rfl
            have f66 := XN.out.cell 5 rfl
            have f67 := XN.out.cell 6 rfl
            have f68 := XN.out.cell 7 rfl
            have f69 := XN.out.cell 8 rfl
            have f70 := X53.out.cell 0 rfl
            have f71 := X53.out.cell 1 rfl
            have f72 := X53.out.cell 2 rfl
            have z73 := XN.out.frozen 0
            have z74 := XN.out.frozen 1
            have z75 := XN.out.frozen 2
            have z76 := XN.out.frozen 3
            have z77 := XN.out.frozen 4
            have z78 := XN.out.frozen 5
            have z79 := XN.out.frozen 6
            have z80 := XN.out.frozen 7
            have z81 := XN.out.frozen 8
            rw [hz] at f65
            clear g0 hz
            go_wp2_with fail
            go_meet
            obtain ⟨W82, hW82⟩ : ∃ W82, W82 = (Wd.setCell ⟨w.heap.size, 0, none⟩ (.int .i64 x2)) := ⟨_, rfl⟩
            have hB83 : Btw (w.heap.size) (w.heap.size + 1) Wd W82 := by rw [hW82]; exact (Btw.refl _ _ _).put
            have X84 : Hid (Box W82 (w.heap.size) 25 #[.int .i64 x2, .int .i64 dn.sp, .int .i64 dn.bank, .int .i64 dn.level, .bool dn.zero, .bool dn.carry, .bool dn.on, .bool dn.halt, .slice A 16 c]) := Lib.hid (by rw [hW82]; exact (XN.out.set 0 _))
            have X85 := Lib.hid (X50.out.btw hB83 (by have := Z2.out; have := SX.out; have := Z16.out; have := Z48.out; have := Z57.out; omega))
            have X86 := Lib.hid (X51.out.btw hB83 (by have := Z2.out; have := SX.out; have := Z16.out; have := Z48.out; have := Z57.out; omega))
            have X87 := Lib.hid (X52.out.btw hB83 (by have := Z2.out; have := SX.out; have := Z16.out; have := Z48.out; have := Z57.out; omega))
            have X88 := Lib.hid (X53.out.btw hB83 (by have := Z2.out; have := SX.out; have := Z16.out; have := Z48.out; have := Z57.out; omega))
            have F89 := Lib.hid (NC.out.off XN.out (by simp) hB83)
            have F90 := Lib.hid (F55.out.off XN.out (by simp) hB83)
            have hb91 := Btw.lowSize hB83 hb56 (Nat.le_of_lt XN.out.lt) (by have := Z2.out; have := SX.out; have := Z16.out; have := Z48.out; have := Z57.out; omega)
            have Z92 : Hid (Wd.heap.size ≤ W82.heap.size) := Lib.hid hB83.size
            rw [← hW82]
            clear hW82 hB83 XN X50 X51 X52 X53 NC F55 hb56
            have g0 := HZ.out.1
            obtain ⟨g1, g2, g3⟩ := HF.out
            rw [g0, g2, g3]
            exact ⟨A, c, A0, A1, A2, A3, c0, c1, c2, c3, rfl, Lib.hid hb91, X84, X85, X86, X87, (Lib.hid ⟨hO.at ha.1 ha.2, F89.out.2⟩), F90⟩
          · have hz : dn.zero = false := by simpa using hz
            have g0 : dF = dn := by rw [HF.out.1, execD_16, hz]; rfl
            have HZ := Lib.hid (And.intro g0 hz)
            have f61 := XN.out.cell 0 rfl
            have f62 := XN.out.cell 1 rfl
            have f63 := XN.out.cell 2 rfl
            have f64 := XN.out.cell 3 rfl
            have f65 := XN.out.cell 4 rfl
            have f66 := XN.out.cell 5 rfl
            have f67 := XN.out.cell 6 rfl
            have f68 := XN.out.cell 7 rfl
            have f69 := XN.out.cell 8 rfl
            have f70 := X53.out.cell 0 rfl
            have f71 := X53.out.cell 1 rfl
            have f72 := X53.out.cell 2 rfl
            have z73 := XN.out.frozen 0
            have z74 := XN.out.frozen 1
            have z75 := XN.out.frozen 2
            have z76 := XN.out.frozen 3
            have z77 := XN.out.frozen 4
            have z78 := XN.out.frozen 5
            have z79 := XN.out.frozen 6
            have z80 := XN.out.frozen 7
            have z81 := XN.out.frozen 8
            rw [hz] at f65
            clear g0 hz
            go_wp2_with fail
            go_meet
            have g0 := HZ.out.1
            obtain ⟨g1, g2, g3⟩ := HF.out
            rw [g0, g2, g3]
            exact ⟨A, c, A0, A1, A2, A3, c0, c1, c2, c3, rfl, Lib.hid hb56, XN, X50, X51, X52, NC, F55⟩
        · by_cases hz : dn.zero = true
          · have g0 : dF = dn := by rw [HF.out.1, execD_17, hz]; rfl
            have HZ := Lib.hid (And.intro g0 hz)
            have f61 := XN.out.cell 0 rfl
            have f62 := XN.out.cell 1 rfl
            have f63 := XN.out.cell 2 rfl
            have f64 := XN.out.cell 3 rfl
            have f65 := XN.out.cell 4 rfl
            have f66 := XN.out.cell 5 rfl
            have f67 := XN.out.cell 6 rfl
            have f68 := XN.out.cell 7 rfl
            have f69 := XN.out.cell 8 rfl
            have f70 := X53.out.cell 0 rfl
            have f71 := X53.out.cell 1 rfl
            have f72 := X53.out.cell 2 rfl
            have z73 := XN.out.frozen 0
            have z74 := XN.out.frozen 1
            have z75 := XN.out.frozen 2
            have z76 := XN.out.frozen 3
            have z77 := XN.out.frozen 4
            have z78 := XN.out.frozen 5
            have z79 := XN.out.frozen 6
            have z80 := XN.out.frozen 7
            have z81 := XN.out.frozen 8
            rw [hz] at f65
            clear g0 hz
            go_wp2_with fail
            go_meet
            have g0 := HZ.out.1
            obtain ⟨g1, g2, g3⟩ := HF.out
            rw [g0, g2, g3]
            exact ⟨A, c, A0, A1, A2, A3, c0, c1, c2, c3, rfl, Lib.hid hb56, XN, X50, X51, X52, NC, F55⟩
          · have hz : dn.zero = false := by simpa using hz
            have g0 : dF = dn.at x2 := by rw [HF.out.1, execD_17, hz]; rfl
            have HZ := Lib.hid (And.intro g0 hz)
            have f61 := XN.out.cell 0 rfl
            have f62 := XN.out.cell 1 rfl
            have f63 := XN.out.cell 2 rfl
            have f64 := XN.out.cell 3 rfl
            have f65 := XN.out.cell 4 rfl
            have f66 := XN.out.cell 5 rfl
            have f67 := XN.out.cell 6 rfl
            have f68 := XN.out.cell 7 rfl
            have f69 := XN.out.cell 8 rfl
            have f70 := X53.out.cell 0 rfl
            have f71 := X53.out.cell 1 rfl
            have f72 := X53.out.cell 2 rfl
            have z73 := XN.out.frozen 0
            have z74 := XN.out.frozen 1
            have z75 := XN.out.frozen 2
            have z76 := XN.out.frozen 3
            have z77 := XN.out.frozen 4
            have z78 := XN.out.frozen 5
            have z79 := XN.out.frozen 6
            have z80 := XN.out.frozen 7
            have z81 := XN.out.frozen 8
            rw [hz] at f65
            clear g0 hz
            go_wp2_with fail
            go_meet
            obtain ⟨W82, hW82⟩ : ∃ W82, W82 = (Wd.setCell ⟨w.heap.size, 0, none⟩ (.int .i64 x2)) := ⟨_, rfl⟩
            have hB83 : Btw (w.heap.size) (w.heap.size + 1) Wd W82 := by rw [hW82]; exact (Btw.refl _ _ _).put
            have X84 : Hid (Box W82 (w.heap.size) 25 #[.int .i64 x2, .int .i64 dn.sp, .int .i64 dn.bank, .int .i64 dn.level, .bool dn.zero, .bool dn.carry, .bool dn.on, .bool dn.halt, .slice A 16 c]) := Lib.hid (by rw [hW82]; exact (XN.out.set 0 _))
            have X85 := Lib.hid (X50.out.btw hB83 (by have := Z2.out; have := SX.out; have := Z16.out; have := Z48.out; have := Z57.out; omega))
            have X86 := Lib.hid (X51.out.btw hB83 (by have := Z2.out; have := SX.out; have := Z16.out; have := Z48.out; have := Z57.out; omega))
            have X87 := Lib.hid (X52.out.btw hB83 (by have := Z2.out; have := SX.out; have := Z16.out; have := Z48.out; have := Z57.out; omega))
            have X88 := Lib.hid (X53.out.btw hB83 (by have := Z2.out; have := SX.out; have := Z16.out; have := Z48.out; have := Z57.out; omega))
            have F89 := Lib.hid (NC.out.off XN.out (by simp) hB83)
            have F90 := Lib.hid (F55.out.off XN.out (by simp) hB83)
            have hb91 := Btw.lowSize hB83 hb56 (Nat.le_of_lt XN.out.lt) (by have := Z2.out; have := SX.out; have := Z16.out; have := Z48.out; have := Z57.out; omega)
            have Z92 : Hid (Wd.heap.size ≤ W82.heap.size) := Lib.hid hB83.size
            rw [← hW82]
            clear hW82 hB83 XN X50 X51 X52 X53 NC F55 hb56
            have g0 := HZ.out.1
            obtain ⟨g1, g2, g3⟩ := HF.out
            rw [g0, g2, g3]
            exact ⟨A, c, A0, A1, A2, A3, c0, c1, c2, c3, rfl, Lib.hid hb91, X84, X85, X86, X87, (Lib.hid ⟨hO.at ha.1 ha.2, F89.out.2⟩), F90⟩
        · have HA := Lib.hid (fun W (q : RepC W A dn) (r : RepM W A0 A1 A2 A3 m) => l08Call A c dn A0 A1 A2 A3 c0 c1 c2 c3 m W x2 ha.1 ha.2 q r)
          unfold ReadsCM at HA
          have h1 : dF = callD dn x2 := HF.out.1
          have h2 : mF = callM dn m := HF.out.2.1
          rw [← h1, ← h2] at HA
          clear h1 h2
          have f61 := XN.out.cell 0 rfl
          have f62 := XN.out.cell 1 rfl
          have f63 := XN.out.cell 2 rfl
          have f64 := XN.out.cell 3 rfl
          have f65 := XN.out.cell 4 rfl
          have f66 := XN.out.cell 5 rfl
          have f67 := XN.out.cell 6 rfl
          have f68 := XN.out.cell 7 rfl
          have f69 := XN.out.cell 8 rfl
          have f70 := X50.out.cell 0 rfl
          have f71 := X50.out.cell 1 rfl
          have f72 := X50.out.cell 2 rfl
          have f73 := X50.out.cell 3 rfl
          have f74 := X50.out.cell 4 rfl
          have f75 := X53.out.cell 0 rfl
          have f76 := X53.out.cell 1 rfl
          have f77 := X53.out.cell 2 rfl
          go_wp2_with fail
          clear f61 f62 f63 f64 f65 f66 f67 f68 f69 f70 f71 f72 f73 f74 f75 f76 f77
          refine (HA.out _ NC.out F55.out).mono ?_
          rintro e w3 ⟨Aa, ca, Ab, Ac, Ad, Ae, cb, cc, cd, ce, rfl, N1, N2, hq3⟩
          have X78 := Lib.hid (XN.out.step hq3)
          have X79 := Lib.hid (X50.out.step hq3)
          have X80 := Lib.hid (X51.out.step hq3)
          have X81 := Lib.hid (X52.out.step hq3)
          have X82 := Lib.hid (X53.out.step hq3)
          have F83 := Lib.hid (NC.out.below hq3)
          have F84 := Lib.hid (F55.out.below hq3)
          have hb85 := bt hb56 hq3
          have Z86 : Hid (Wd.heap.size ≤ w3.heap.size) := Lib.hid hq3.size
          clear XN X50 X51 X52 X53 NC F55 hb56 hq3
          clear F83 F84 HA
          have f87 := X78.out.cell 0 rfl
          have f88 := X78.out.cell 1 rfl
          have f89 := X78.out.cell 2 rfl
          have f90 := X78.out.cell 3 rfl
          have f91 := X78.out.cell 4 rfl
          have f92 := X78.out.cell 5 rfl
          have f93 := X78.out.cell 6 rfl
          have f94 := X78.out.cell 7 rfl
          have f95 := X78.out.cell 8 rfl
          have f96 := X79.out.cell 0 rfl
          have f97 := X79.out.cell 1 rfl
          have f98 := X79.out.cell 2 rfl
          have f99 := X79.out.cell 3 rfl
          have f100 := X79.out.cell 4 rfl
          have z101 := X78.out.frozen 0
          have z102 := X78.out.frozen 1
          have z103 := X78.out.frozen 2
          have z104 := X78.out.frozen 3
          have z105 := X78.out.frozen 4
          have z106 := X78.out.frozen 5
          have z107 := X78.out.frozen 6
          have z108 := X78.out.frozen 7
          have z109 := X78.out.frozen 8
          have z110 := X79.out.frozen 0
          have z111 := X79.out.frozen 1
          have z112 := X79.out.frozen 2
          have z113 := X79.out.frozen 3
          have z114 := X79.out.frozen 4
          go_wp2_with fail
          go_meet
          obtain ⟨W115, hW115⟩ : ∃ W115, W115 = (((((((((w3.setCell ⟨w.heap.size, 0, none⟩ (.int .i64 dF.pc)).setCell ⟨w.heap.size, 1, none⟩ (.int .i64 dF.sp)).setCell ⟨w.heap.size, 2, none⟩ (.int .i64 dF.bank)).setCell ⟨w.heap.size, 3, none⟩ (.int .i64 dF.level)).setCell ⟨w.heap.size, 4, none⟩ (.bool dF.zero)).setCell ⟨w.heap.size, 5, none⟩ (.bool dF.carry)).setCell ⟨w.heap.size, 6, none⟩ (.bool dF.on)).setCell ⟨w.heap.size, 7, none⟩ (.bool dF.halt)).setCell ⟨w.heap.size, 8, none⟩ (.slice Aa 16 ca)) := ⟨_, rfl⟩
          have hB116 : Btw (w.heap.size) (w.heap.size + 1) w3 W115 := by rw [hW115]; exact (Btw.refl _ _ _).put.put.put.put.put.put.put.put.put
          have X117 : Hid (Box W115 (w.heap.size) 25 #[.int .i64 dF.pc, .int .i64 dF.sp, .int .i64 dF.bank, .int .i64 dF.level, .bool dF.zero, .bool dF.carry, .bool dF.on, .bool dF.halt, .slice Aa 16 ca]) := Lib.hid (by rw [hW115]; exact (X78.out.allN9 rfl _ _ _ _ _ _ _ _ _))
          have X118 := Lib.hid (X79.out.btw hB116 (by have := Z2.out; have := SX.out; have := Z16.out; have := Z48.out; have := Z57.out; have := Z86.out; omega))
          have X119 := Lib.hid (X80.out.btw hB116 (by have := Z2.out; have := SX.out; have := Z16.out; have := Z48.out; have := Z57.out; have := Z86.out; omega))
          have X120 := Lib.hid (X81.out.btw hB116 (by have := Z2.out; have := SX.out; have := Z16.out; have := Z48.out; have := Z57.out; have := Z86.out; omega))
          have X121 := Lib.hid (X82.out.btw hB116 (by have := Z2.out; have := SX.out; have := Z16.out; have := Z48.out; have := Z57.out; have := Z86.out; omega))
          have F122 := Lib.hid (N1.out.off X78.out (by simp) hB116)
          have F123 := Lib.hid (N2.out.off X78.out (by simp) hB116)
          have hb124 := Btw.lowSize hB116 hb85 (Nat.le_of_lt X78.out.lt) (by have := Z2.out; have := SX.out; have := Z16.out; have := Z48.out; have := Z57.out; have := Z86.out; omega)
          have Z125 : Hid (w3.heap.size ≤ W115.heap.size) := Lib.hid hB116.size
          rw [← hW115]
          clear hW115 hB116 X78 X79 X80 X81 X82 N1 N2 hb85
          obtain ⟨W126, hW126⟩ : ∃ W126, W126 = (((((W115.setCell ⟨w.heap.size + 1, 0, none⟩ (.slice Ab 256 cb)).setCell ⟨w.heap.size + 1, 1, none⟩ (.slice Ac 32 cc)).setCell ⟨w.heap.size + 1, 2, none⟩ (.slice Ad 256 cd)).setCell ⟨w.heap.size + 1, 3, none⟩ (.slice Ae 16 ce)).setCell ⟨w.heap.size + 1, 4, none⟩ (.int .i64 mF.s)) := ⟨_, rfl⟩
          have hB127 : Btw (w.heap.size + 1) (w.heap.size + 1 + 1) W115 W126 := by rw [hW126]; exact (Btw.refl _ _ _).put.put.put.put.put
          have X128 : Hid (Box W126 (w.heap.size + 1) 31 #[.slice Ab 256 cb, .slice Ac 32 cc, .slice Ad 256 cd, .slice Ae 16 ce, .int .i64 mF.s]) := Lib.hid (by rw [hW126]; exact (X118.out.allN5 rfl _ _ _ _ _))
          have X129 := Lib.hid (X117.out.btw hB127 (by have := Z2.out; have := SX.out; have := Z16.out; have := Z48.out; have := Z57.out; have := Z86.out; have := Z125.out; omega))
          have X130 := Lib.hid (X119.out.btw hB127 (by have := Z2.out; have := SX.out; have := Z16.out; have := Z48.out; have := Z57.out; have := Z86.out; have := Z125.out; omega))
          have X131 := Lib.hid (X120.out.btw hB127 (by have := Z2.out; have := SX.out; have := Z16.out; have := Z48.out; have := Z57.out; have := Z86.out; have := Z125.out; omega))
          have X132 := Lib.hid (X121.out.btw hB127 (by have := Z2.out; have := SX.out; have := Z16.out; have := Z48.out; have := Z57.out; have := Z86.out; have := Z125.out; omega))
          have F133 := Lib.hid (F122.out.off X118.out (by simp) hB127)
          have F134 := Lib.hid (F123.out.off X118.out (by simp) hB127)
          have hb135 := Btw.lowSize hB127 hb124 (Nat.le_of_lt X118.out.lt) (by have := Z2.out; have := SX.out; have := Z16.out; have := Z48.out; have := Z57.out; have := Z86.out; have := Z125.out; omega)
          have Z136 : Hid (W115.heap.size ≤ W126.heap.size) := Lib.hid hB127.size
          rw [← hW126]
          clear hW126 hB127 X118 X117 X119 X120 X121 F122 F123 hb124
          obtain ⟨g1, g2, g3⟩ := HF.out
          rw [g3]
          exact ⟨Aa, ca, Ab, Ac, Ad, Ae, cb, cc, cd, ce, rfl, Lib.hid hb135, X129, X128, X130, X131, F133, F134⟩
        · have HA := Lib.hid (fun W (q : RepC W A dn) (r : RepM W A0 A1 A2 A3 m) => l08BackS A c dn A0 A1 A2 A3 c0 c1 c2 c3 m W q r)
          unfold ReadsC at HA
          have h1 : dF = backD dn m := HF.out.1
          rw [← h1] at HA
          clear h1
          have f61 := XN.out.cell 0 rfl
          have f62 := XN.out.cell 1 rfl
          have f63 := XN.out.cell 2 rfl
          have f64 := XN.out.cell 3 rfl
          have f65 := XN.out.cell 4 rfl
          have f66 := XN.out.cell 5 rfl
          have f67 := XN.out.cell 6 rfl
          have f68 := XN.out.cell 7 rfl
          have f69 := XN.out.cell 8 rfl
          have f70 := X50.out.cell 0 rfl
          have f71 := X50.out.cell 1 rfl
          have f72 := X50.out.cell 2 rfl
          have f73 := X50.out.cell 3 rfl
          have f74 := X50.out.cell 4 rfl
          go_wp2_with fail
          clear f61 f62 f63 f64 f65 f66 f67 f68 f69 f70 f71 f72 f73 f74
          refine (HA.out _ NC.out F55.out).mono ?_
          rintro e w3 ⟨Aa, ca, rfl, N1, hq3⟩
          have X75 := Lib.hid (XN.out.step hq3)
          have X76 := Lib.hid (X50.out.step hq3)
          have X77 := Lib.hid (X51.out.step hq3)
          have X78 := Lib.hid (X52.out.step hq3)
          have X79 := Lib.hid (X53.out.step hq3)
          have F80 := Lib.hid (NC.out.below hq3)
          have F81 := Lib.hid (F55.out.below hq3)
          have hb82 := bt hb56 hq3
          have Z83 : Hid (Wd.heap.size ≤ w3.heap.size) := Lib.hid hq3.size
          clear XN X50 X51 X52 X53 NC F55 hb56 hq3
          clear F80 HA
          have f84 := X75.out.cell 0 rfl
          have f85 := X75.out.cell 1 rfl
          have f86 := X75.out.cell 2 rfl
          have f87 := X75.out.cell 3 rfl
          have f88 := X75.out.cell 4 rfl
          have f89 := X75.out.cell 5 rfl
          have f90 := X75.out.cell 6 rfl
          have f91 := X75.out.cell 7 rfl
          have f92 := X75.out.cell 8 rfl
          have z93 := X75.out.frozen 0
          have z94 := X75.out.frozen 1
          have z95 := X75.out.frozen 2
          have z96 := X75.out.frozen 3
          have z97 := X75.out.frozen 4
          have z98 := X75.out.frozen 5
          have z99 := X75.out.frozen 6
          have z100 := X75.out.frozen 7
          have z101 := X75.out.frozen 8
          go_wp2_with fail
          go_meet
          obtain ⟨W102, hW102⟩ : ∃ W102, W102 = (((((((((w3.setCell ⟨w.heap.size, 0, none⟩ (.int .i64 dF.pc)).setCell ⟨w.heap.size, 1, none⟩ (.int .i64 dF.sp)).setCell ⟨w.heap.size, 2, none⟩ (.int .i64 dF.bank)).setCell ⟨w.heap.size, 3, none⟩ (.int .i64 dF.level)).setCell ⟨w.heap.size, 4, none⟩ (.bool dF.zero)).setCell ⟨w.heap.size, 5, none⟩ (.bool dF.carry)).setCell ⟨w.heap.size, 6, none⟩ (.bool dF.on)).setCell ⟨w.heap.size, 7, none⟩ (.bool dF.halt)).setCell ⟨w.heap.size, 8, none⟩ (.slice Aa 16 ca)) := ⟨_, rfl⟩
          have hB103 : Btw (w.heap.size) (w.heap.size + 1) w3 W102 := by rw [hW102]; exact (Btw.refl _ _ _).put.put.put.put.put.put.put.put.put
          have X104 : Hid (Box W102 (w.heap.size) 25 #[.int .i64 dF.pc, .int .i64 dF.sp, .int .i64 dF.bank, .int .i64 dF.level, .bool dF.zero, .bool dF.carry, .bool dF.on, .bool dF.halt, .slice Aa 16 ca]) := Lib.hid (by rw [hW102]; exact (X75.out.allN9 rfl _ _ _ _ _ _ _ _ _))
          have X105 := Lib.hid (X76.out.btw hB103 (by have := Z2.out; have := SX.out; have := Z16.out; have := Z48.out; have := Z57.out; have := Z83.out; omega))
          have X106 := Lib.hid (X77.out.btw hB103 (by have := Z2.out; have := SX.out; have := Z16.out; have := Z48.out; have := Z57.out; have := Z83.out; omega))
          have X107 := Lib.hid (X78.out.btw hB103 (by have := Z2.out; have := SX.out; have := Z16.out; have := Z48.out; have := Z57.out; have := Z83.out; omega))
          have X108 := Lib.hid (X79.out.btw hB103 (by have := Z2.out; have := SX.out; have := Z16.out; have := Z48.out; have := Z57.out; have := Z83.out; omega))
          have F109 := Lib.hid (N1.out.off X75.out (by simp) hB103)
          have F110 := Lib.hid (F81.out.off X75.out (by simp) hB103)
          have hb111 := Btw.lowSize hB103 hb82 (Nat.le_of_lt X75.out.lt) (by have := Z2.out; have := SX.out; have := Z16.out; have := Z48.out; have := Z57.out; have := Z83.out; omega)
          have Z112 : Hid (w3.heap.size ≤ W102.heap.size) := Lib.hid hB103.size
          rw [← hW102]
          clear hW102 hB103 X75 X76 X77 X78 X79 N1 F81 hb82
          obtain ⟨g1, g2, g3⟩ := HF.out
          rw [g2, g3]
          exact ⟨Aa, ca, A0, A1, A2, A3, c0, c1, c2, c3, rfl, Lib.hid hb111, X104, X105, X106, X107, F109, F110⟩
        · have f61 := X53.out.cell 0 rfl
          have f62 := X53.out.cell 1 rfl
          have f63 := X53.out.cell 2 rfl
          go_wp2_with fail
          go_meet
          obtain ⟨g1, g2, g3⟩ := HF.out
          rw [g1, g2, g3]
          exact ⟨A, c, A0, A1, A2, A3, c0, c1, c2, c3, rfl, Lib.hid hb56, XN, X50, X51, X52, NC, F55⟩
        · have f61 := XN.out.cell 0 rfl
          have f62 := XN.out.cell 1 rfl
          have f63 := XN.out.cell 2 rfl
          have f64 := XN.out.cell 3 rfl
          have f65 := XN.out.cell 4 rfl
          have f66 := XN.out.cell 5 rfl
          have f67 := XN.out.cell 6 rfl
          have f68 := XN.out.cell 7 rfl
          have f69 := XN.out.cell 8 rfl
          have f70 := X53.out.cell 0 rfl
          have f71 := X53.out.cell 1 rfl
          have f72 := X53.out.cell 2 rfl
          have z73 := XN.out.frozen 0
          have z74 := XN.out.frozen 1
          have z75 := XN.out.frozen 2
          have z76 := XN.out.frozen 3
          have z77 := XN.out.frozen 4
          have z78 := XN.out.frozen 5
          have z79 := XN.out.frozen 6
          have z80 := XN.out.frozen 7
          have z81 := XN.out.frozen 8
          go_wp2_with fail
          go_meet
          obtain ⟨W82, hW82⟩ : ∃ W82, W82 = (Wd.setCell ⟨w.heap.size, 2, none⟩ (.int .i64 x2)) := ⟨_, rfl⟩
          have hB83 : Btw (w.heap.size) (w.heap.size + 1) Wd W82 := by rw [hW82]; exact (Btw.refl _ _ _).put
          have X84 : Hid (Box W82 (w.heap.size) 25 #[.int .i64 dn.pc, .int .i64 dn.sp, .int .i64 x2, .int .i64 dn.level, .bool dn.zero, .bool dn.carry, .bool dn.on, .bool dn.halt, .slice A 16 c]) := Lib.hid (by rw [hW82]; exact (XN.out.set 2 _))
          have X85 := Lib.hid (X50.out.btw hB83 (by have := Z2.out; have := SX.out; have := Z16.out; have := Z48.out; have := Z57.out; omega))
          have X86 := Lib.hid (X51.out.btw hB83 (by have := Z2.out; have := SX.out; have := Z16.out; have := Z48.out; have := Z57.out; omega))
          have X87 := Lib.hid (X52.out.btw hB83 (by have := Z2.out; have := SX.out; have := Z16.out; have := Z48.out; have := Z57.out; omega))
          have X88 := Lib.hid (X53.out.btw hB83 (by have := Z2.out; have := SX.out; have := Z16.out; have := Z48.out; have := Z57.out; omega))
          have F89 := Lib.hid (NC.out.off XN.out (by simp) hB83)
          have F90 := Lib.hid (F55.out.off XN.out (by simp) hB83)
          have hb91 := Btw.lowSize hB83 hb56 (Nat.le_of_lt XN.out.lt) (by have := Z2.out; have := SX.out; have := Z16.out; have := Z48.out; have := Z57.out; omega)
          have Z92 : Hid (Wd.heap.size ≤ W82.heap.size) := Lib.hid hB83.size
          rw [← hW82]
          clear hW82 hB83 XN X50 X51 X52 X53 NC F55 hb56
          obtain ⟨g1, g2, g3⟩ := HF.out
          rw [g1, g2, g3]
          exact ⟨A, c, A0, A1, A2, A3, c0, c1, c2, c3, rfl, Lib.hid hb91, X84, X85, X86, X87, Lib.hid ⟨hO.exec (m := m) hi0, F89.out.2⟩, F90⟩
        · have HA := Lib.hid (fun W (q : RepC W A dn) (r : RepM W A0 A1 A2 A3 m) => l08Call A c dn A0 A1 A2 A3 c0 c1 c2 c3 m W 752 (by decide) (by decide) q r)
          unfold ReadsCM at HA
          have h1 : dF = callD dn 752 := HF.out.1
          have h2 : mF = callM dn m := HF.out.2.1
          rw [← h1, ← h2] at HA
          clear h1 h2
          have f61 := XN.out.cell 0 rfl
          have f62 := XN.out.cell 1 rfl
          have f63 := XN.out.cell 2 rfl
          have f64 := XN.out.cell 3 rfl
          have f65 := XN.out.cell 4 rfl
          have f66 := XN.out.cell 5 rfl
          have f67 := XN.out.cell 6 rfl
          have f68 := XN.out.cell 7 rfl
          have f69 := XN.out.cell 8 rfl
          have f70 := X50.out.cell 0 rfl
          have f71 := X50.out.cell 1 rfl
          have f72 := X50.out.cell 2 rfl
          have f73 := X50.out.cell 3 rfl
          have f74 := X50.out.cell 4 rfl
          have f75 := X53.out.cell 0 rfl
          have f76 := X53.out.cell 1 rfl
          have f77 := X53.out.cell 2 rfl
          go_wp2_with fail
          clear f61 f62 f63 f64 f65 f66 f67 f68 f69 f70 f71 f72 f73 f74 f75 f76 f77
          refine (HA.out _ NC.out F55.out).mono ?_
          rintro e w3 ⟨Aa, ca, Ab, Ac, Ad, Ae, cb, cc, cd, ce, rfl, N1, N2, hq3⟩
          have X78 := Lib.hid (XN.out.step hq3)
          have X79 := Lib.hid (X50.out.step hq3)
          have X80 := Lib.hid (X51.out.step hq3)
          have X81 := Lib.hid (X52.out.step hq3)
          have X82 := Lib.hid (X53.out.step hq3)
          have F83 := Lib.hid (NC.out.below hq3)
          have F84 := Lib.hid (F55.out.below hq3)
          have hb85 := bt hb56 hq3
          have Z86 : Hid (Wd.heap.size ≤ w3.heap.size) := Lib.hid hq3.size
          clear XN X50 X51 X52 X53 NC F55 hb56 hq3
          clear F83 F84 HA
          have f87 := X78.out.cell 0 rfl
          have f88 := X78.out.cell 1 rfl
          have f89 := X78.out.cell 2 rfl
          have f90 := X78.out.cell 3 rfl
          have f91 := X78.out.cell 4 rfl
          have f92 := X78.out.cell 5 rfl
          have f93 := X78.out.cell 6 rfl
          have f94 := X78.out.cell 7 rfl
          have f95 := X78.out.cell 8 rfl
          have f96 := X79.out.cell 0 rfl
          have f97 := X79.out.cell 1 rfl
          have f98 := X79.out.cell 2 rfl
          have f99 := X79.out.cell 3 rfl
          have f100 := X79.out.cell 4 rfl
          have z101 := X78.out.frozen 0
          have z102 := X78.out.frozen 1
          have z103 := X78.out.frozen 2
          have z104 := X78.out.frozen 3
          have z105 := X78.out.frozen 4
          have z106 := X78.out.frozen 5
          have z107 := X78.out.frozen 6
          have z108 := X78.out.frozen 7
          have z109 := X78.out.frozen 8
          have z110 := X79.out.frozen 0
          have z111 := X79.out.frozen 1
          have z112 := X79.out.frozen 2
          have z113 := X79.out.frozen 3
          have z114 := X79.out.frozen 4
          go_wp2_with fail
          go_meet
          obtain ⟨W115, hW115⟩ : ∃ W115, W115 = (((((((((w3.setCell ⟨w.heap.size, 0, none⟩ (.int .i64 dF.pc)).setCell ⟨w.heap.size, 1, none⟩ (.int .i64 dF.sp)).setCell ⟨w.heap.size, 2, none⟩ (.int .i64 dF.bank)).setCell ⟨w.heap.size, 3, none⟩ (.int .i64 dF.level)).setCell ⟨w.heap.size, 4, none⟩ (.bool dF.zero)).setCell ⟨w.heap.size, 5, none⟩ (.bool dF.carry)).setCell ⟨w.heap.size, 6, none⟩ (.bool dF.on)).setCell ⟨w.heap.size, 7, none⟩ (.bool dF.halt)).setCell ⟨w.heap.size, 8, none⟩ (.slice Aa 16 ca)) := ⟨_, rfl⟩
          have hB116 : Btw (w.heap.size) (w.heap.size + 1) w3 W115 := by rw [hW115]; exact (Btw.refl _ _ _).put.put.put.put.put.put.put.put.put
          have X117 : Hid (Box W115 (w.heap.size) 25 #[.int .i64 dF.pc, .int .i64 dF.sp, .int .i64 dF.bank, .int .i64 dF.level, .bool dF.zero, .bool dF.carry, .bool dF.on, .bool dF.halt, .slice Aa 16 ca]) := Lib.hid (by rw [hW115]; exact (X78.out.allN9 rfl _ _ _ _ _ _ _ _ _))
          have X118 := Lib.hid (X79.out.btw hB116 (by have := Z2.out; have := SX.out; have := Z16.out; have := Z48.out; have := Z57.out; have := Z86.out; omega))
          have X119 := Lib.hid (X80.out.btw hB116 (by have := Z2.out; have := SX.out; have := Z16.out; have := Z48.out; have := Z57.out; have := Z86.out; omega))
          have X120 := Lib.hid (X81.out.btw hB116 (by have := Z2.out; have := SX.out; have := Z16.out; have := Z48.out; have := Z57.out; have := Z86.out; omega))
          have X121 := Lib.hid (X82.out.btw hB116 (by have := Z2.out; have := SX.out; have := Z16.out; have := Z48.out; have := Z57.out; have := Z86.out; omega))
          have F122 := Lib.hid (N1.out.off X78.out (by simp) hB116)
          have F123 := Lib.hid (N2.out.off X78.out (by simp) hB116)
          have hb124 := Btw.lowSize hB116 hb85 (Nat.le_of_lt X78.out.lt) (by have := Z2.out; have := SX.out; have := Z16.out; have := Z48.out; have := Z57.out; have := Z86.out; omega)
          have Z125 : Hid (w3.heap.size ≤ W115.heap.size) := Lib.hid hB116.size
          rw [← hW115]
          clear hW115 hB116 X78 X79 X80 X81 X82 N1 N2 hb85
          obtain ⟨W126, hW126⟩ : ∃ W126, W126 = (((((W115.setCell ⟨w.heap.size + 1, 0, none⟩ (.slice Ab 256 cb)).setCell ⟨w.heap.size + 1, 1, none⟩ (.slice Ac 32 cc)).setCell ⟨w.heap.size + 1, 2, none⟩ (.slice Ad 256 cd)).setCell ⟨w.heap.size + 1, 3, none⟩ (.slice Ae 16 ce)).setCell ⟨w.heap.size + 1, 4, none⟩ (.int .i64 mF.s)) := ⟨_, rfl⟩
          have hB127 : Btw (w.heap.size + 1) (w.heap.size + 1 + 1) W115 W126 := by rw [hW126]; exact (Btw.refl _ _ _).put.put.put.put.put
          have X128 : Hid (Box W126 (w.heap.size + 1) 31 #[.slice Ab 256 cb, .slice Ac 32 cc, .slice Ad 256 cd, .slice Ae 16 ce, .int .i64 mF.s]) := Lib.hid (by rw [hW126]; exact (X118.out.allN5 rfl _ _ _ _ _))
          have X129 := Lib.hid (X117.out.btw hB127 (by have := Z2.out; have := SX.out; have := Z16.out; have := Z48.out; have := Z57.out; have := Z86.out; have := Z125.out; omega))
          have X130 := Lib.hid (X119.out.btw hB127 (by have := Z2.out; have := SX.out; have := Z16.out; have := Z48.out; have := Z57.out; have := Z86.out; have := Z125.out; omega))
          have X131 := Lib.hid (X120.out.btw hB127 (by have := Z2.out; have := SX.out; have := Z16.out; have := Z48.out; have := Z57.out; have := Z86.out; have := Z125.out; omega))
          have X132 := Lib.hid (X121.out.btw hB127 (by have := Z2.out; have := SX.out; have := Z16.out; have := Z48.out; have := Z57.out; have := Z86.out; have := Z125.out; omega))
          have F133 := Lib.hid (F122.out.off X118.out (by simp) hB127)
          have F134 := Lib.hid (F123.out.off X118.out (by simp) hB127)
          have hb135 := Btw.lowSize hB127 hb124 (Nat.le_of_lt X118.out.lt) (by have := Z2.out; have := SX.out; have := Z16.out; have := Z48.out; have := Z57.out; have := Z86.out; have := Z125.out; omega)
          have Z136 : Hid (W115.heap.size ≤ W126.heap.size) := Lib.hid hB127.size
          rw [← hW126]
          clear hW126 hB127 X118 X117 X119 X120 X121 F122 F123 hb124
          obtain ⟨g1, g2, g3⟩ := HF.out
          rw [g3]
          exact ⟨Aa, ca, Ab, Ac, Ad, Ae, cb, cc, cd, ce, rfl, Lib.hid hb135, X129, X128, X130, X131, F133, F134⟩
      case rest =>
        clear X53 X50 X51 X52 F55 XN NC hb56 HF HI Hn HM HO HH hh
        obtain ⟨Aa, ca, Ab, Ac, Ad, Ae, cb, cc, cd, ce, rfl, BZ, Yc, Ym, Yrc, Yrm, Fc, Fm⟩ := hcut
        have hbz := BZ.out
        have SZ := Lib.hid BZ.out.size
        go_wp2
        clear BZ
        have HK : Hid (∀ W, Box W (w.heap.size) 25 #[.int .i64 dF.pc, .int .i64 dF.sp, .int .i64 dF.bank, .int .i64 dF.level, .bool dF.zero, .bool dF.carry, .bool dF.on, .bool dF.halt, .slice Aa 16 ca] ∧ Box W (w.heap.size + 1) 31 #[.slice Ab 256 cb, .slice Ac 32 cc, .slice Ad 256 cd, .slice Ae 16 ce, .int .i64 mF.s] → W.cell? ⟨w.heap.size, 0, none⟩ = some (.int .i64 dF.pc) ∧ W.cell? ⟨w.heap.size, 1, none⟩ = some (.int .i64 dF.sp) ∧ W.cell? ⟨w.heap.size, 2, none⟩ = some (.int .i64 dF.bank) ∧ W.cell? ⟨w.heap.size, 3, none⟩ = some (.int .i64 dF.level) ∧ W.cell? ⟨w.heap.size, 4, none⟩ = some (.bool dF.zero) ∧ W.cell? ⟨w.heap.size, 5, none⟩ = some (.bool dF.carry) ∧ W.cell? ⟨w.heap.size, 6, none⟩ = some (.bool dF.on) ∧ W.cell? ⟨w.heap.size, 7, none⟩ = some (.bool dF.halt) ∧ W.cell? ⟨w.heap.size, 8, none⟩ = some (.slice Aa 16 ca) ∧ W.cell? ⟨w.heap.size + 1, 0, none⟩ = some (.slice Ab 256 cb) ∧ W.cell? ⟨w.heap.size + 1, 1, none⟩ = some (.slice Ac 32 cc) ∧ W.cell? ⟨w.heap.size + 1, 2, none⟩ = some (.slice Ad 256 cd) ∧ W.cell? ⟨w.heap.size + 1, 3, none⟩ = some (.slice Ae 16 ce) ∧ W.cell? ⟨w.heap.size + 1, 4, none⟩ = some (.int .i64 mF.s)) := Lib.hid (fun W X => ⟨X.1.cell 0 rfl, X.1.cell 1 rfl, X.1.cell 2 rfl, X.1.cell 3 rfl, X.1.cell 4 rfl, X.1.cell 5 rfl, X.1.cell 6 rfl, X.1.cell 7 rfl, X.1.cell 8 rfl, X.2.cell 0 rfl, X.2.cell 1 rfl, X.2.cell 2 rfl, X.2.cell 3 rfl, X.2.cell 4 rfl⟩)
        obtain ⟨V1, hV1⟩ : ∃ V1, V1 = (((((((((wc.setCell ⟨w.heap.size + 2, 0, none⟩ (.int .i64 dF.pc)).setCell ⟨w.heap.size + 2, 1, none⟩ (.int .i64 dF.sp)).setCell ⟨w.heap.size + 2, 2, none⟩ (.int .i64 dF.bank)).setCell ⟨w.heap.size + 2, 3, none⟩ (.int .i64 dF.level)).setCell ⟨w.heap.size + 2, 4, none⟩ (.bool dF.zero)).setCell ⟨w.heap.size + 2, 5, none⟩ (.bool dF.carry)).setCell ⟨w.heap.size + 2, 6, none⟩ (.bool dF.on)).setCell ⟨w.heap.size + 2, 7, none⟩ (.bool dF.halt)).setCell ⟨w.heap.size + 2, 8, none⟩ (.slice Aa 16 ca)) := ⟨_, rfl⟩
        have U1 : Btw (w.heap.size + 2) (w.heap.size + 2 + 1) wc V1 := by rw [hV1]; exact (Btw.refl _ _ _).put.put.put.put.put.put.put.put.put
        obtain ⟨V2, hV2⟩ : ∃ V2, V2 = (((((V1.setCell ⟨w.heap.size + 3, 0, none⟩ (.slice Ab 256 cb)).setCell ⟨w.heap.size + 3, 1, none⟩ (.slice Ac 32 cc)).setCell ⟨w.heap.size + 3, 2, none⟩ (.slice Ad 256 cd)).setCell ⟨w.heap.size + 3, 3, none⟩ (.slice Ae 16 ce)).setCell ⟨w.heap.size + 3, 4, none⟩ (.int .i64 mF.s)) := ⟨_, rfl⟩
        have U2 : Btw (w.heap.size + 3) (w.heap.size + 3 + 1) V1 V2 := by rw [hV2]; exact (Btw.refl _ _ _).put.put.put.put.put
        have HX0 : Hid (Box wc.drew (w.heap.size) 25 #[.int .i64 dF.pc, .int .i64 dF.sp, .int .i64 dF.bank, .int .i64 dF.level, .bool dF.zero, .bool dF.carry, .bool dF.on, .bool dF.halt, .slice Aa 16 ca] ∧ Box wc.drew (w.heap.size + 1) 31 #[.slice Ab 256 cb, .slice Ac 32 cc, .slice Ad 256 cd, .slice Ae 16 ce, .int .i64 mF.s]) := Lib.hid ⟨Yc.out.drew, Ym.out.drew⟩
        have HX1a : Box V1 (w.heap.size) 25 #[.int .i64 dF.pc, .int .i64 dF.sp, .int .i64 dF.bank, .int .i64 dF.level, .bool dF.zero, .bool dF.carry, .bool dF.on, .bool dF.halt, .slice Aa 16 ca] ∧ Box V1 (w.heap.size + 1) 31 #[.slice Ab 256 cb, .slice Ac 32 cc, .slice Ad 256 cd, .slice Ae 16 ce, .int .i64 mF.s] := ⟨Yc.out.btw U1 (by have := SZ.out; omega), Ym.out.btw U1 (by have := SZ.out; omega)⟩
        have HX2a : Box V2 (w.heap.size) 25 #[.int .i64 dF.pc, .int .i64 dF.sp, .int .i64 dF.bank, .int .i64 dF.level, .bool dF.zero, .bool dF.carry, .bool dF.on, .bool dF.halt, .slice Aa 16 ca] ∧ Box V2 (w.heap.size + 1) 31 #[.slice Ab 256 cb, .slice Ac 32 cc, .slice Ad 256 cd, .slice Ae 16 ce, .int .i64 mF.s] := ⟨HX1a.1.btw U2 (by have := SZ.out; omega), HX1a.2.btw U2 (by have := SZ.out; omega)⟩
        have HX1 : Hid (Box ((((((((((wc.setCell ⟨w.heap.size + 2, 0, none⟩ (.int .i64 dF.pc)).setCell ⟨w.heap.size + 2, 1, none⟩ (.int .i64 dF.sp)).setCell ⟨w.heap.size + 2, 2, none⟩ (.int .i64 dF.bank)).setCell ⟨w.heap.size + 2, 3, none⟩ (.int .i64 dF.level)).setCell ⟨w.heap.size + 2, 4, none⟩ (.bool dF.zero)).setCell ⟨w.heap.size + 2, 5, none⟩ (.bool dF.carry)).setCell ⟨w.heap.size + 2, 6, none⟩ (.bool dF.on)).setCell ⟨w.heap.size + 2, 7, none⟩ (.bool dF.halt)).setCell ⟨w.heap.size + 2, 8, none⟩ (.slice Aa 16 ca)).drew) (w.heap.size) 25 #[.int .i64 dF.pc, .int .i64 dF.sp, .int .i64 dF.bank, .int .i64 dF.level, .bool dF.zero, .bool dF.carry, .bool dF.on, .bool dF.halt, .slice Aa 16 ca] ∧ Box ((((((((((wc.setCell ⟨w.heap.size + 2, 0, none⟩ (.int .i64 dF.pc)).setCell ⟨w.heap.size + 2, 1, none⟩ (.int .i64 dF.sp)).setCell ⟨w.heap.size + 2, 2, none⟩ (.int .i64 dF.bank)).setCell ⟨w.heap.size + 2, 3, none⟩ (.int .i64 dF.level)).setCell ⟨w.heap.size + 2, 4, none⟩ (.bool dF.zero)).setCell ⟨w.heap.size + 2, 5, none⟩ (.bool dF.carry)).setCell ⟨w.heap.size + 2, 6, none⟩ (.bool dF.on)).setCell ⟨w.heap.size + 2, 7, none⟩ (.bool dF.halt)).setCell ⟨w.heap.size + 2, 8, none⟩ (.slice Aa 16 ca)).drew) (w.heap.size + 1) 31 #[.slice Ab 256 cb, .slice Ac 32 cc, .slice Ad 256 cd, .slice Ae 16 ce, .int .i64 mF.s]) := Lib.hid (by rw [← hV1]; exact ⟨HX1a.1.drew, HX1a.2.drew⟩)
        have HX2 : Hid (Box (((((((((((((((wc.setCell ⟨w.heap.size + 2, 0, none⟩ (.int .i64 dF.pc)).setCell ⟨w.heap.size + 2, 1, none⟩ (.int .i64 dF.sp)).setCell ⟨w.heap.size + 2, 2, none⟩ (.int .i64 dF.bank)).setCell ⟨w.heap.size + 2, 3, none⟩ (.int .i64 dF.level)).setCell ⟨w.heap.size + 2, 4, none⟩ (.bool dF.zero)).setCell ⟨w.heap.size + 2, 5, none⟩ (.bool dF.carry)).setCell ⟨w.heap.size + 2, 6, none⟩ (.bool dF.on)).setCell ⟨w.heap.size + 2, 7, none⟩ (.bool dF.halt)).setCell ⟨w.heap.size + 2, 8, none⟩ (.slice Aa 16 ca)).setCell ⟨w.heap.size + 3, 0, none⟩ (.slice Ab 256 cb)).setCell ⟨w.heap.size + 3, 1, none⟩ (.slice Ac 32 cc)).setCell ⟨w.heap.size + 3, 2, none⟩ (.slice Ad 256 cd)).setCell ⟨w.heap.size + 3, 3, none⟩ (.slice Ae 16 ce)).setCell ⟨w.heap.size + 3, 4, none⟩ (.int .i64 mF.s)).drew) (w.heap.size) 25 #[.int .i64 dF.pc, .int .i64 dF.sp, .int .i64 dF.bank, .int .i64 dF.level, .bool dF.zero, .bool dF.carry, .bool dF.on, .bool dF.halt, .slice Aa 16 ca] ∧ Box (((((((((((((((wc.setCell ⟨w.heap.size + 2, 0, none⟩ (.int .i64 dF.pc)).setCell ⟨w.heap.size + 2, 1, none⟩ (.int .i64 dF.sp)).setCell ⟨w.heap.size + 2, 2, none⟩ (.int .i64 dF.bank)).setCell ⟨w.heap.size + 2, 3, none⟩ (.int .i64 dF.level)).setCell ⟨w.heap.size + 2, 4, none⟩ (.bool dF.zero)).setCell ⟨w.heap.size + 2, 5, none⟩ (.bool dF.carry)).setCell ⟨w.heap.size + 2, 6, none⟩ (.bool dF.on)).setCell ⟨w.heap.size + 2, 7, none⟩ (.bool dF.halt)).setCell ⟨w.heap.size + 2, 8, none⟩ (.slice Aa 16 ca)).setCell ⟨w.heap.size + 3, 0, none⟩ (.slice Ab 256 cb)).setCell ⟨w.heap.size + 3, 1, none⟩ (.slice Ac 32 cc)).setCell ⟨w.heap.size + 3, 2, none⟩ (.slice Ad 256 cd)).setCell ⟨w.heap.size + 3, 3, none⟩ (.slice Ae 16 ce)).setCell ⟨w.heap.size + 3, 4, none⟩ (.int .i64 mF.s)).drew) (w.heap.size + 1) 31 #[.slice Ab 256 cb, .slice Ac 32 cc, .slice Ad 256 cd, .slice Ae 16 ce, .int .i64 mF.s]) := Lib.hid (by rw [← hV1, ← hV2]; exact ⟨HX2a.1.drew, HX2a.2.drew⟩)
        have HYa : Hid (Box V1 (w.heap.size + 2) 25 #[.int .i64 dF.pc, .int .i64 dF.sp, .int .i64 dF.bank, .int .i64 dF.level, .bool dF.zero, .bool dF.carry, .bool dF.on, .bool dF.halt, .slice Aa 16 ca]) := Lib.hid (by rw [hV1]; exact Yrc.out.allN9 rfl _ _ _ _ _ _ _ _ _)
        have HYb : Hid (Box V1 (w.heap.size + 3) 31 #[.slice none 0 0, .slice none 0 0, .slice none 0 0, .slice none 0 0, .int .i64 0]) := Lib.hid (Yrm.out.btw U1 (by have := SZ.out; omega))
        have HR1 : Hid (Box V2.drew (w.heap.size + 3) 31 #[.slice Ab 256 cb, .slice Ac 32 cc, .slice Ad 256 cd, .slice Ae 16 ce, .int .i64 mF.s]) := Lib.hid (by rw [hV2]; exact (HYb.out.allN5 rfl _ _ _ _ _).drew)
        have HR0 : Hid (Box V2.drew (w.heap.size + 2) 25 #[.int .i64 dF.pc, .int .i64 dF.sp, .int .i64 dF.bank, .int .i64 dF.level, .bool dF.zero, .bool dF.carry, .bool dF.on, .bool dF.halt, .slice Aa 16 ca]) := Lib.hid (HYa.out.btw U2 (by have := SZ.out; omega)).drew
        have hfin : Below w.heap.size w V2.drew := (Btw.lowSize U2 (Btw.lowSize U1 hbz (Nat.le_of_lt Yrc.out.lt) (by have := SZ.out; omega)) (Nat.le_of_lt HYb.out.lt) (by have := SZ.out; omega)).drew
        have HV1 := Lib.hid hV1
        have HV2 := Lib.hid hV2
        have HU1 := Lib.hid U1
        have HU2 := Lib.hid U2
        have HYm := Lib.hid HYb.out
        clear hV1 hV2 U1 U2 HX1a HX2a HYa HYb
        have f61 := Yrc.out.cell 0 rfl
        have f62 := Yrc.out.cell 1 rfl
        have f63 := Yrc.out.cell 2 rfl
        have f64 := Yrc.out.cell 3 rfl
        have f65 := Yrc.out.cell 4 rfl
        have f66 := Yrc.out.cell 5 rfl
        have f67 := Yrc.out.cell 6 rfl
        have f68 := Yrc.out.cell 7 rfl
        have f69 := Yrc.out.cell 8 rfl
        have f70 := Yrm.out.cell 0 rfl
        have f71 := Yrm.out.cell 1 rfl
        have f72 := Yrm.out.cell 2 rfl
        have f73 := Yrm.out.cell 3 rfl
        have f74 := Yrm.out.cell 4 rfl
        have z75 := Yrc.out.frozen 0
        have z76 := Yrc.out.frozen 1
        have z77 := Yrc.out.frozen 2
        have z78 := Yrc.out.frozen 3
        have z79 := Yrc.out.frozen 4
        have z80 := Yrc.out.frozen 5
        have z81 := Yrc.out.frozen 6
        have z82 := Yrc.out.frozen 7
        have z83 := Yrc.out.frozen 8
        have z84 := Yrm.out.frozen 0
        have z85 := Yrm.out.frozen 1
        have z86 := Yrm.out.frozen 2
        have z87 := Yrm.out.frozen 3
        have z88 := Yrm.out.frozen 4
        go_region_held3 (fun W => W.cell? ⟨w.heap.size, 0, none⟩ = some (.int .i64 dF.pc) ∧ W.cell? ⟨w.heap.size, 1, none⟩ = some (.int .i64 dF.sp) ∧ W.cell? ⟨w.heap.size, 2, none⟩ = some (.int .i64 dF.bank) ∧ W.cell? ⟨w.heap.size, 3, none⟩ = some (.int .i64 dF.level) ∧ W.cell? ⟨w.heap.size, 4, none⟩ = some (.bool dF.zero) ∧ W.cell? ⟨w.heap.size, 5, none⟩ = some (.bool dF.carry) ∧ W.cell? ⟨w.heap.size, 6, none⟩ = some (.bool dF.on) ∧ W.cell? ⟨w.heap.size, 7, none⟩ = some (.bool dF.halt) ∧ W.cell? ⟨w.heap.size, 8, none⟩ = some (.slice Aa 16 ca) ∧ W.cell? ⟨w.heap.size + 1, 0, none⟩ = some (.slice Ab 256 cb) ∧ W.cell? ⟨w.heap.size + 1, 1, none⟩ = some (.slice Ac 32 cc) ∧ W.cell? ⟨w.heap.size + 1, 2, none⟩ = some (.slice Ad 256 cd) ∧ W.cell? ⟨w.heap.size + 1, 3, none⟩ = some (.slice Ae 16 ce) ∧ W.cell? ⟨w.heap.size + 1, 4, none⟩ = some (.int .i64 mF.s))
          (first | (with_reducible exact HK.out _ HX0.out) | (with_reducible exact HK.out _ HX1.out) | (with_reducible exact HK.out _ HX2.out))
          (fail)
        go_wp2
        rw [← HV1.out, ← HV2.out]
        have r0 := HR0.out
        have r1 := HR1.out
        have s0 := r0.cell 0 rfl
        have s1 := r0.cell 1 rfl
        have s2 := r0.cell 2 rfl
        have s3 := r0.cell 3 rfl
        have s4 := r0.cell 4 rfl
        have s5 := r0.cell 5 rfl
        have s6 := r0.cell 6 rfl
        have s7 := r0.cell 7 rfl
        have s8 := r0.cell 8 rfl
        have t0 := r1.cell 0 rfl
        have t1 := r1.cell 1 rfl
        have t2 := r1.cell 2 rfl
        have t3 := r1.cell 3 rfl
        have t4 := r1.cell 4 rfl
        refine bodyPost_ret (v := .tuple #[.agg #[.int .i64 dF.pc, .int .i64 dF.sp, .int .i64 dF.bank, .int .i64 dF.level, .bool dF.zero, .bool dF.carry, .bool dF.on, .bool dF.halt, .slice Aa 16 ca], .agg #[.slice Ab 256 cb, .slice Ac 32 cc, .slice Ad 256 cd, .slice Ae 16 ce, .int .i64 mF.s], .int .i64 (cycT x0), .int .i64 sF]) (by simp [results, Tryz.results27, go_sem, s0, s1, s2, s3, s4, s5, s6, s7, s8, t0, t1, t2, t3, t4]) rfl ?_
        exact ⟨Aa, ca, Ab, Ac, Ad, Ae, cb, cc, cd, ce, rfl, Lib.hid (((Fc.out.off Yrc.out (by simp) HU1.out).off HYm.out (by simp) HU2.out).below (Below.refl _ _).drew), Lib.hid (((Fm.out.off Yrc.out (by simp) HU1.out).off HYm.out (by simp) HU2.out).below (Below.refl _ _).drew), hfin⟩
end Go.Proofs.YtcchhbkbnbphhaaGreatDoor
