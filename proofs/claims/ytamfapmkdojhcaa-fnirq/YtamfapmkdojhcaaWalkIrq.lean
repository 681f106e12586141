/- The law FnIrq, walked. Written by gen_walkirq.py. -/
import Derived.Test.YtamfapmkdojhcaaDrawIrq
import Derived.Test.YtamfapmkdojhcaaAt2
import Derived.BigQuiet
namespace Go.Proofs.Ytamfapmkdojhcaa
open Go.RowKit

theorem getD_setB (l : List Bool) (k : Nat) (x : Bool) (h : k < l.length) : (l.set k x).getD k false = x := by
  rw [List.getD_eq_getElem?_getD, List.getElem?_set_self h]; rfl
theorem getD_setI (l : List Int) (k : Nat) (x : Int) (h : k < l.length) : (l.set k x).getD k 0 = x := by
  rw [List.getD_eq_getElem?_getD, List.getElem?_set_self h]; rfl
theorem okIrq_set {ls : List Int} {ps : List Bool} (h : okIrq ls ps = true) (k : Nat) (x : Bool) : okIrq ls (ps.set k x) = true := by
  obtain ⟨h1, h2, -⟩ := okIrq_len h
  rw [okIrq_yes _ _ h1 h2] at h
  exact okIrq_mk h1 (by rw [List.length_set]; exact h2) h
theorem okIrq_lev {ls : List Int} {ps : List Bool} (h : okIrq ls ps = true) (k : Nat) : okIrq (ls.set k 7) ps = true := by
  obtain ⟨h1, h2, -⟩ := okIrq_len h
  rw [okIrq_yes _ _ h1 h2] at h
  exact okIrq_mk (by rw [List.length_set]; exact h1) h2 (all_set6 h k 7 (by decide))
theorem lineC_ok {ls : List Int} {ps : List Bool} (h : okIrq ls ps = true) {k : Nat} (hk : k < 8) : lineC ls ps k = 0 := by unfold lineC; rw [h, lvB_nat hk]; rfl
/-- What is selected of a controller whose line i is pending at level 7, above 6. -/
theorem next_seven {ls : List Int} {ps : List Bool} (h : okIrq ls ps = true) {i : Nat} (hi : i < 8) (hp : ps.getD i false = true) (hl : ls.getD i 0 = 7) : ∃ m : Nat, nextF ls ps 6 8 = m ∧ m < 8 ∧ m ≤ i ∧ ls.getD m 0 = 7 := by
  obtain ⟨h1, h2, h3⟩ := okIrq_len h
  rcases next_says (ls := ls) (ps := ps) (a := 6) 8 with ⟨q1, q2⟩ | ⟨m, q1, q2, q3, q4, q5, q6⟩
  · exact absurd ⟨hp, by omega⟩ (q2 i hi)
  · have hm := h3 (ls.getD m 0) (by rw [List.getD_eq_getElem?_getD, List.getElem?_eq_getElem (by omega)]; exact List.getElem_mem _)
    refine ⟨m, q1, q2, ?_, by omega⟩
    apply Classical.byContradiction; intro c
    have := q6 i (by omega) hp
    omega

/-- A variable that holds a controller of eight lines. -/
structure IV (D : Nat) (A0 A1 : Option Addr) (c0 c1 : Nat) (ls : List Int) (ps : List Bool) (W : World) : Prop where
  x : Box W D 26 #[.slice A0 8 c0, .slice A1 8 c1]
  i0 : IntL W A0 ls
  i1 : BoolL W A1 ps
def PutQ (ls : List Int) (ps : List Bool) (w : World) (e : Ending) (w' : World) : Prop :=
  ∃ A0 A1 c0 c1, e = .returned (.tuple #[.agg #[.slice A0 8 c0, .slice A1 8 c1], .int .i64 0]) ∧ Hid (IntL w' A0 ls ∧ BoolL w' A1 ps) ∧ Below w.heap.size w w'
section
variable {D : Nat} {A0 A1 : Option Addr} {c0 c1 : Nat} {ls : List Int} {ps : List Bool} {W W' : World}
theorem IV.step (h : IV D A0 A1 c0 c1 ls ps W) (hb : Below W.heap.size W W') : IV D A0 A1 c0 c1 ls ps W' := ⟨h.x.step hb, h.i0.below hb, h.i1.below hb⟩
theorem IV.drewN (h : IV D A0 A1 c0 c1 ls ps W) (k : Nat) : IV D A0 A1 c0 c1 ls ps (W.drewN k) := h.step (below_drewN (Below.refl _ _) k)
theorem IV.new (h0 : IntL W A0 ls) (h1 : BoolL W A1 ps) : IV W.heap.size A0 A1 c0 c1 ls ps (W.alloc (.cells #[.slice A0 8 c0, .slice A1 8 c1] 26)) := ⟨Box.new _ _ _, h0.below (alloc_below _ _), h1.below (alloc_below _ _)⟩
theorem PutQ.of {r : List Int × List Bool × Int} {e : Ending} (he : r = (ls, ps, 0)) (h1 : ls.length = 8) (h2 : ps.length = 8) (h : GivesIrqCode r W e W') : PutQ ls ps W e W' := by
  subst he
  obtain ⟨A0, A1, c0, c1, e1, O, hb⟩ := h
  simp only [h1, h2] at e1 O
  refine ⟨A0, A1, c0, c1, e1, Lib.hid ?_, hb⟩
  obtain ⟨⟨⟨a0, b0, q0, o0⟩, ⟨a1, b1, q1, o1⟩, -⟩, -⟩ := O.out
  injection q0 with q0 _ _
  injection q1 with q1 _ _
  subst q0 q1
  exact ⟨o0.reads, o1.reads⟩
theorem m8 : (8 : Nat) ≤ maxLen := by unfold maxLen; omega
set_option maxRecDepth 100000 in
theorem nextI (hok : okIrq ls ps = true) (a : Nat) (ha : a < 8) (q : IV D A0 A1 c0 c1 ls ps W) :
    Calls Try.prog 12 #[.agg #[.slice A0 8 c0, .slice A1 8 c1], .int .i64 a] W fun e w' => e = .returned (.tuple #[.int .i64 (nextF ls ps a 8), .int .i64 0]) ∧ Below W.heap.size W w' := by
  obtain ⟨l1, l2, -⟩ := okIrq_len hok
  have := implNextIrq A0 A1 8 8 c0 c1 ls ps W a l1 l2 m8 m8 q.i0 q.i1
  rwa [show nxtF ls ps a = (nextF ls ps a 8, 0) from by unfold nxtF; rw [hok, lvB_nat ha]; rfl] at this
set_option maxRecDepth 100000 in
theorem nextQ (hok : okIrq ls ps = true) (a : Nat) (ha : a < 8) (q : IV D A0 A1 c0 c1 ls ps W) :
    Calls Try.prog 13 #[.agg #[.slice A0 8 c0, .slice A1 8 c1], .int .i64 a] W fun e w' => e = .returned (.tuple #[.int .i64 (nextF ls ps a 8), .int .i64 0]) ∧ Below W.heap.size W w' := by
  obtain ⟨l1, l2, -⟩ := okIrq_len hok
  have := specNextIrq A0 A1 8 8 c0 c1 ls ps W a l1 l2 m8 m8 q.i0 q.i1
  rwa [show nxtF ls ps a = (nextF ls ps a 8, 0) from by unfold nxtF; rw [hok, lvB_nat ha]; rfl] at this
set_option maxRecDepth 100000 in
theorem raiseI (hok : okIrq ls ps = true) (k : Nat) (hk : k < 8) (q : IV D A0 A1 c0 c1 ls ps W) : Calls Try.prog 14 #[.agg #[.slice A0 8 c0, .slice A1 8 c1], .int .i64 k] W (PutQ ls (ps.set k true) W) := by
  obtain ⟨l1, l2, -⟩ := okIrq_len hok
  exact (implRaise A0 A1 8 8 c0 c1 ls ps W k l1 l2 m8 m8 q.i0 q.i1).mono fun _ _ h => .of (by unfold pendF; rw [if_pos (lineC_ok hok hk)]; rfl) l1 (by rw [List.length_set]; exact l2) h
set_option maxRecDepth 100000 in
theorem ackI (hok : okIrq ls ps = true) (k : Nat) (hk : k < 8) (q : IV D A0 A1 c0 c1 ls ps W) : Calls Try.prog 16 #[.agg #[.slice A0 8 c0, .slice A1 8 c1], .int .i64 k] W (PutQ ls (ps.set k false) W) := by
  obtain ⟨l1, l2, -⟩ := okIrq_len hok
  exact (implAck A0 A1 8 8 c0 c1 ls ps W k l1 l2 m8 m8 q.i0 q.i1).mono fun _ _ h => .of (by unfold pendF; rw [if_pos (lineC_ok hok hk)]; rfl) l1 (by rw [List.length_set]; exact l2) h
set_option maxRecDepth 100000 in
theorem levelI (hok : okIrq ls ps = true) (k : Nat) (hk : k < 8) (q : IV D A0 A1 c0 c1 ls ps W) : Calls Try.prog 15 #[.agg #[.slice A0 8 c0, .slice A1 8 c1], .int .i64 k, .int .i64 7] W (PutQ (ls.set k 7) ps W) := by
  obtain ⟨l1, l2, -⟩ := okIrq_len hok
  exact (implSetLevel A0 A1 8 8 c0 c1 ls ps W k 7 l1 l2 m8 m8 q.i0 q.i1).mono fun _ _ h => .of (by unfold levF; rw [if_pos (lineC_ok hok hk), if_pos (by decide)]; rfl) (by rw [List.length_set]; exact l1) l2 h
set_option maxRecDepth 100000 in
theorem okI (hok : okIrq ls ps = true) (q : IV D A0 A1 c0 c1 ls ps W) : Calls Try.prog 17 #[.agg #[.slice A0 8 c0, .slice A1 8 c1]] W fun e w' => e = .returned (.bool true) ∧ Below W.heap.size W w' := by
  obtain ⟨l1, l2, -⟩ := okIrq_len hok
  have := implIrqOK A0 A1 8 8 c0 c1 ls ps W l1 l2 m8 m8 q.i0
  rwa [hok] at this
end

set_option maxRecDepth 100000 in
theorem fieldL (v u : Value) (w : World) : (Instr.field 26 (.agg #[v, u]) 0).run Try.prog w = .ok v w := by
  kernel_rfl
set_option maxRecDepth 100000 in
set_option maxHeartbeats 16000000 in
theorem walkIrq (A : Option Addr) (n c : Nat) (zs : List Nat) (A' : Option Addr) (n' c' : Nat) (zs' : List Nat) (w : World) (hl : zs.length = n) (hl' : zs'.length = n') (hn : n ≤ maxLen) (hn' : n' ≤ maxLen) (h : ByB w w.heap.size A zs) (h' : ByB w w.heap.size A' zs') :
    Calls Try.prog 3 #[.slice A n c, .slice A' n' c'] w fun e w' => e = .returned (.bool true) ∧ Below w.heap.size w w' := by
  unfold maxLen at hn hn'
  by_cases hle : n ≤ 1048576
  · by_cases hle' : n' ≤ 1048576
    · have i1 : ¬ (1048576 : Int) < (n : Int) := by omega
      have i2 : ¬ (1048576 : Int) < (n' : Int) := by omega
      have HD := Lib.hid (irqDrawn A n c zs w (by unfold maxLen; omega) hl h)
      have HA0 : Hid (∀ W, Below w.heap.size w W → Calls Try.prog 11 #[.slice A' n' c', .int .i64 0, .int .i64 8] W fun e w' => e = .returned (.int .i64 (atOf zs' 0 8 : Nat)) ∧ Below W.heap.size W w') := Lib.hid (fun W hb => lawAtE 0 8 A' n' c' zs' W (by omega) (by omega) (by omega) hle' hl' (h'.step hb))
      have HA1 : Hid (∀ W, Below w.heap.size w W → Calls Try.prog 11 #[.slice A' n' c', .int .i64 1, .int .i64 8] W fun e w' => e = .returned (.int .i64 (atOf zs' 1 8 : Nat)) ∧ Below W.heap.size W w') := Lib.hid (fun W hb => lawAtE 1 8 A' n' c' zs' W (by omega) (by omega) (by omega) hle' hl' (h'.step hb))
      have ha := atOf_lt zs' 0 8 (by omega)
      have hi := atOf_lt zs' 1 8 (by omega)
      generalize atOf zs' 0 8 = a at HA0 ha
      generalize atOf zs' 1 8 = i at HA1 hi
      have hii : (i : Int) < 8 := by omega
      clear hl hl' hn hn' h h'
      go_enter Try.func3, Try.ntmps3
      go_wp2_with fail
      refine HD.out.mono ?_
      rintro e w1 ⟨ls, ps, B0, B1, e0, e1, HO, rfl, HI, HB1⟩
      obtain ⟨w2, hw2⟩ : ∃ w2, w2 = w1.alloc (.cells #[.slice B0 8 e0, .slice B1 8 e1] 26) := ⟨_, rfl⟩
      have Q2 : Hid (IV w1.heap.size B0 B1 e0 e1 ls ps w2) := Lib.hid (by rw [hw2]; exact IV.new HI.out.1.reads HI.out.2.reads)
      have hb2 : Below w.heap.size w w2 := by rw [hw2]; exact bt HB1.out (alloc_below _ _)
      obtain ⟨D1, hD1⟩ : ∃ D1, D1 = w1.heap.size := ⟨_, rfl⟩
      rw [← hD1] at Q2
      have HW2 := Lib.hid hw2
      have HLn := Lib.hid (okIrq_len HO.out)
      clear hw2 HI HB1 HD
      go_wp2_with fail
      rw [← HW2.out]
      refine (HA0.out w2 hb2).mono ?_
      rintro e w3 ⟨rfl, k3⟩
      have hb3 := bt hb2 k3
      have Q3 := Lib.hid (Q2.out.step k3)
      have HN3 := Lib.hid (nextI HO.out a ha Q3.out)
      have HNs := Lib.hid (fun W (q : IV D1 B0 B1 e0 e1 ls ps W) => nextQ HO.out a ha q)
      have HSay := Lib.hid (next_says (ls := ls) (ps := ps) (a := a) 8)
      generalize nextF ls ps a 8 = kk at HN3 HNs HSay
      have q0 := Q3.out.x.cell 0 rfl
      have q1 := Q3.out.x.cell 1 rfl
      rw [hD1] at q0 q1
      clear Q2 k3 hb2 HA0 HW2
      go_wp2_with fail
      refine HN3.out.mono ?_
      rintro e w4 ⟨rfl, k4⟩
      have hb4 := bt hb3 k4
      have Q4 := Lib.hid (Q3.out.step k4)
      have HN4 := Lib.hid (HNs.out w4 Q4.out)
      clear q0 q1
      have q0 := Q4.out.x.cell 0 rfl
      have q1 := Q4.out.x.cell 1 rfl
      rw [hD1] at q0 q1
      clear Q3 k4 hb3 HN3 HNs
      go_wp2_with fail
      refine HN4.out.mono ?_
      rintro e w5 ⟨rfl, k5⟩
      have hb5 := bt hb4 k5
      have Q5 := Lib.hid (Q4.out.step k5)
      clear Q4 k5 hb4 HN4 q0 q1
      go_wp2_with fail
      refine (HA1.out w5 hb5).mono ?_
      rintro e w6 ⟨rfl, k6⟩
      have hb6 := bt hb5 k6
      have Q6 := Lib.hid (Q5.out.step k6)
      have HR6 := Lib.hid (raiseI HO.out i hi Q6.out)
      have q0 := Q6.out.x.cell 0 rfl
      have q1 := Q6.out.x.cell 1 rfl
      rw [hD1] at q0 q1
      have HOr := Lib.hid (okIrq_set HO.out i true)
      have HPr := Lib.hid (getD_setB ps i true (by rw [HLn.out.2.1]; exact hi))
      generalize ps.set i true = px at HR6 HOr HPr
      clear Q5 k6 hb5 HA1
      go_wp2_with fail
      refine HR6.out.mono ?_
      rintro e w7 ⟨C0, C1, f0, f1, rfl, HI, k7⟩
      obtain ⟨w8, hw8⟩ : ∃ w8, w8 = w7.alloc (.cells #[.slice C0 8 f0, .slice C1 8 f1] 26) := ⟨_, rfl⟩
      have k8 : Below w7.heap.size w7 w8 := by rw [hw8]; exact alloc_below _ _
      have R8 : Hid (IV w7.heap.size C0 C1 f0 f1 ls px w8) := Lib.hid (by rw [hw8]; exact IV.new HI.out.1 HI.out.2)
      have Q8 := Lib.hid ((Q6.out.step k7).step k8)
      have hb8 := bt (bt hb6 k7) k8
      have HL8 := Lib.hid (levelI HOr.out i hi R8.out)
      obtain ⟨D2, hD2⟩ : ∃ D2, D2 = w7.heap.size := ⟨_, rfl⟩
      clear q0 q1
      have r0 := R8.out.x.cell 0 rfl
      have r1 := R8.out.x.cell 1 rfl
      rw [hw8] at r0 r1
      have HW8 := Lib.hid hw8
      have HOx := Lib.hid (okIrq_lev HOr.out i)
      have HLx := Lib.hid (getD_setI ls i 7 (by rw [HLn.out.1]; exact hi))
      generalize ls.set i 7 = lx at HL8 HOx HLx
      clear hw8 HI k7 k8 Q6 hb6 HR6
      go_wp2_with fail
      rw [← HW8.out]
      refine HL8.out.mono ?_
      rintro e w9 ⟨E0, E1, g0, g1, rfl, HI, k9⟩
      obtain ⟨w10, hw10⟩ : ∃ w10, w10 = w9.alloc (.cells #[.slice E0 8 g0, .slice E1 8 g1] 26) := ⟨_, rfl⟩
      have k10 : Below w9.heap.size w9 w10 := by rw [hw10]; exact alloc_below _ _
      have X10 : Hid (IV w9.heap.size E0 E1 g0 g1 lx px w10) := Lib.hid (by rw [hw10]; exact IV.new HI.out.1 HI.out.2)
      have Q10 := Lib.hid ((Q8.out.step k9).step k10)
      have hb10 := bt (bt hb8 k9) k10
      have HN10 : Hid (Calls Try.prog 12 #[.agg #[.slice E0 8 g0, .slice E1 8 g1], .int .i64 6] w10 fun e w' => e = .returned (.tuple #[.int .i64 (nextF lx px 6 8), .int .i64 0]) ∧ Below w10.heap.size w10 w') := Lib.hid (nextI HOx.out 6 (by omega) X10.out)
      obtain ⟨D3, hD3⟩ : ∃ D3, D3 = w9.heap.size := ⟨_, rfl⟩
      obtain ⟨m, hm1, hm2, hm3, hm4⟩ := next_seven HOx.out hi HPr.out HLx.out
      rw [hm1] at HN10
      clear r0 r1
      have x0 := X10.out.x.cell 0 rfl
      have x1 := X10.out.x.cell 1 rfl
      rw [hw10] at x0 x1
      have HW10 := Lib.hid hw10
      clear hw10 HI k9 k10 Q8 R8 hb8 HL8 HW8 hm1
      go_wp2_with fail
      rw [← HW10.out]
      refine HN10.out.mono ?_
      rintro e w11 ⟨rfl, k11⟩
      have X11 := Lib.hid (X10.out.step k11)
      have Q11 := Lib.hid (Q10.out.step k11)
      have hb11 := bt hb10 k11
      have HK11 := Lib.hid (ackI HOx.out i hi X11.out)
      clear x0 x1
      have x0 := X11.out.x.cell 0 rfl
      have x1 := X11.out.x.cell 1 rfl
      have HOy := Lib.hid (okIrq_set HOx.out i false)
      have HPy := Lib.hid (getD_setB px i false (by have := (okIrq_len HOx.out).2.1; omega))
      have HLy : Hid (i < (px.set i false).length) := Lib.hid (by have := (okIrq_len HOy.out).2.1; omega)
      generalize px.set i false = py at HK11 HOy HPy HLy
      clear X10 Q10 k11 hb10 HN10 HW10
      go_wp2_with fail
      refine HK11.out.mono ?_
      rintro e w12 ⟨F0, F1, h0, h1, rfl, HI, k12⟩
      obtain ⟨w13, hw13⟩ : ∃ w13, w13 = w12.alloc (.cells #[.slice F0 8 h0, .slice F1 8 h1] 26) := ⟨_, rfl⟩
      have k13 : Below w12.heap.size w12 w13 := by rw [hw13]; exact alloc_below _ _
      have Y13 : Hid (IV w12.heap.size F0 F1 h0 h1 lx py w13) := Lib.hid (by rw [hw13]; exact IV.new HI.out.1 HI.out.2)
      have Q13 := Lib.hid ((Q11.out.step k12).step k13)
      have X13 := Lib.hid ((X11.out.step k12).step k13)
      have hb13 := bt (bt hb11 k12) k13
      have HK13 := Lib.hid (okI HOy.out Y13.out)
      clear x0 x1
      have y0 := Y13.out.x.cell 0 rfl
      have y1 := Y13.out.x.cell 1 rfl
      rw [hw13] at y0 y1
      have HW13 := Lib.hid hw13
      have hkk : (kk != kk) = false := by simp
      clear hw13 HI k12 k13 Q11 X11 hb11 HK11
      go_wp2_with fail
      rw [← HW13.out]
      refine HK13.out.mono ?_
      rintro e w14 ⟨rfl, k14⟩
      have Y14 := Lib.hid (Y13.out.step k14)
      have X14 := Lib.hid (X13.out.step k14)
      have Q14 := Lib.hid (Q13.out.step k14)
      have hb14 := bt hb13 k14
      clear y0 y1
      have x0 := X14.out.x.cell 0 rfl
      have x1 := X14.out.x.cell 1 rfl
      have y0 := Y14.out.x.cell 0 rfl
      have y1 := Y14.out.x.cell 1 rfl
      obtain ⟨bl, ol, rfl, hxl⟩ := X14.out.i0 i (by have := (okIrq_len HOx.out).1; omega)
      obtain ⟨bl', ol', el, hxm⟩ := X14.out.i0 m (by have := (okIrq_len HOx.out).1; omega)
      injection el with el; injection el with z1 z2; subst z1 z2
      obtain ⟨bp, op, rfl, hxp⟩ := X14.out.i1 i (by have := (okIrq_len HOx.out).2.1; omega)
      obtain ⟨by', oy, rfl, hyp⟩ := Y14.out.i1 i HLy.out
      rw [HPr.out] at hxp
      rw [HPy.out] at hyp
      rw [HLx.out] at hxl
      rw [hm4] at hxm
      have HNw := Lib.hid (implNewIrq w14)
      have hmn : ¬ ((m : Int) < 0) := by omega
      have hmi : ¬ ((i : Int) < (m : Int)) := by omega
      have hm8' : (m : Int) < 8 := by omega
      have hmn2 : decide ((m : Int) < 0) = false := decide_eq_false (by omega)
      have hmi2 : decide (i < m) = false := decide_eq_false (by omega)
      have hmi3 : decide ((i : Int) < (m : Int)) = false := decide_eq_false (by omega)
      clear Y13 X13 Q13 k14 hb13 HK13 HW13 HOr HOx HOy HPr HPy HLx HLy hm4
      go_wp2_with fail
      refine HNw.out.mono ?_
      rintro e w15 ⟨G0, G1, j0, j1, rfl, -, k15⟩
      have hfl := fieldL (.slice G0 8 j0) (.slice G1 8 j1) w15
      have Q15 := Lib.hid (Q14.out.step k15)
      have hb15 := bt hb14 k15
      clear Y14 X14 Q14 k15 hb14 HNw x0 x1 y0 y1 hxl hxm hxp hyp hmn hmi hm8' hmn2 hmi2 hmi3 hD2 hD3 hm3
      go_wp2
      rw [← hD1]
      clear hD1
      go_loopw [20] (fun q wr => ∃ l : Nat, l ≤ 8 ∧ q = .int .i64 l ∧ Below w.heap.size w wr ∧ Hid (IV D1 B0 B1 e0 e1 ls ps wr)) (fun q _ => 8 - (intOf q).toNat)
      case atStart => exact ⟨0, by omega, rfl, hb15, Q15⟩
      case round =>
        clear hb15 Q15
        obtain ⟨l, hl, rfl, hbw, Q⟩ := hrel
        have q0 := Q.out.x.cell 0 rfl
        have q1 := Q.out.x.cell 1 rfl
        by_cases hlt : l < 8
        · have hli : (l : Int) < 8 := by omega
          obtain ⟨b, off, rfl, hc⟩ := Q.out.i0 l (by rw [HLn.out.1]; exact hlt)
          obtain ⟨b', off', rfl, hp⟩ := Q.out.i1 l (by rw [HLn.out.2.1]; exact hlt)
          have hsay : (kk = -1 ∧ ¬ (ps.getD l false = true ∧ (a : Int) < ls.getD l 0)) ∨ ∃ t : Nat, kk = t ∧ t < 8 ∧ (a : Int) < ls.getD t 0 ∧ (ps.getD l false = true → ls.getD l 0 ≤ ls.getD t 0 ∨ ls.getD l 0 ≤ a) := by
            rcases HSay.out with ⟨s1, s2⟩ | ⟨t, s1, s2, s3, s4, s5, s6⟩
            · exact .inl ⟨s1, s2 l hlt⟩
            · exact .inr ⟨t, s1, s2, s4, s5 l hlt⟩
          generalize ls.getD l 0 = x at hc hsay
          generalize ps.getD l false = p at hp hsay
          cases p
          · clear hsay
            go_wp2
            go_quiet (fail)
            go_wp2
            go_roundw
            case rel => first | exact ⟨l + 1, by omega, by go_num, below_drewN hbw _, Lib.hid (Q.out.drewN _)⟩ | ((repeat apply Exists.intro); refine ⟨?_, rfl⟩; exact ⟨l + 1, by omega, by go_num, below_drewN hbw _, Lib.hid (Q.out.drewN _)⟩)
            case measure => simp [intOf]; omega
          · by_cases hx : (a : Int) < x
            · have hx' : decide ((a : Int) < x) = true := by simpa using hx
              rcases hsay with ⟨s1, s2⟩ | ⟨t, s1, s2, s3, s4⟩
              · exact absurd ⟨rfl, hx⟩ s2
              · obtain ⟨bt', ot, et, hct⟩ := Q.out.i0 t (by rw [HLn.out.1]; exact s2)
                injection et with et; injection et with z1 z2; subst z1 z2
                have hyt : ¬ (ls.getD t 0 < x) := by rcases s4 rfl with z | z <;> omega
                generalize ls.getD t 0 = y at hct hyt
                have hy' : decide (y < x) = false := by simpa using hyt
                subst s1
                have htn : ¬ ((t : Int) < 0) := by omega
                have ht8 : (t : Int) < 8 := by omega
                have htn2 : decide ((t : Int) < 0) = false := decide_eq_false (by omega)
                clear s3 s4
                go_wp2
                go_quiet (fail)
                go_wp2
                go_roundw
                case rel => first | exact ⟨l + 1, by omega, by go_num, below_drewN hbw _, Lib.hid (Q.out.drewN _)⟩ | ((repeat apply Exists.intro); refine ⟨?_, rfl⟩; exact ⟨l + 1, by omega, by go_num, below_drewN hbw _, Lib.hid (Q.out.drewN _)⟩)
                case measure => simp [intOf]; omega
            · have hx' : decide ((a : Int) < x) = false := by simpa using hx
              clear hsay
              go_wp2
              go_quiet (fail)
              go_wp2
              go_roundw
              case rel => first | exact ⟨l + 1, by omega, by go_num, below_drewN hbw _, Lib.hid (Q.out.drewN _)⟩ | ((repeat apply Exists.intro); refine ⟨?_, rfl⟩; exact ⟨l + 1, by omega, by go_num, below_drewN hbw _, Lib.hid (Q.out.drewN _)⟩)
              case measure => simp [intOf]; omega
        · rcases HSay.out with ⟨s1, -⟩ | ⟨t, s1, s2, s3, -⟩
          · subst s1
            go_wp2
            go_ret
            exact ⟨rfl, hbw⟩
          · obtain ⟨b', off', rfl, hp⟩ := Q.out.i1 t (by rw [HLn.out.2.1]; exact s2)
            rw [s3] at hp
            subst s1
            have htn : ¬ ((t : Int) < 0) := by omega
            have ht8 : (t : Int) < 8 := by omega
            go_wp2
            go_ret
            exact ⟨rfl, hbw⟩
    · have i1 : ¬ (1048576 : Int) < (n : Int) := by omega
      have i2 : (1048576 : Int) < (n' : Int) := by omega
      clear h h'
      go_enter Try.func3, Try.ntmps3
      go_wp2
      go_ret
      exact ⟨rfl, Below.refl _ _⟩
  · have i1 : (1048576 : Int) < (n : Int) := by omega
    clear h h'
    go_enter Try.func3, Try.ntmps3
    go_wp2
    go_ret
    exact ⟨rfl, Below.refl _ _⟩
end Go.Proofs.Ytamfapmkdojhcaa
