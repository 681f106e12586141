/- perform, the first instructions. Written by gen_procp.py. -/
import Derived.Test.YtcchhbkbnbphhaaGreatDoorM11
namespace Go.Proofs.YtcchhbkbnbphhaaGreatDoor
open Go.RowKit

set_option maxRecDepth 100000 in
set_option maxHeartbeats 8000000 in
theorem prPerform0 (a : PA) (d : CD) (m : MD) (s op reg arg : Int) (w : World) (ho : 0 ≤ op ∧ op ≤ 3) (hi : InsOk op reg arg) (hd : d.Ok) (hm : m.Ok) (h : PrAt w a d m s) :
    Calls Tryz.prog 53 #[.pointer (some ⟨a.p, 0, none⟩), .agg #[.int .i64 op, .int .i64 reg, .int .i64 arg]] w (GPr a (execD d m op reg arg) (execM d m op reg arg) (if op = 20 then arg else s) w) := by
  have HP := Lib.hid h
  have HI := Lib.hid hi
  have HO := Lib.hid ho
  clear ho
  clear h hi
  generalize hN : (if op = 20 then arg else s) = sN
  have HN := Lib.hid hN
  clear hN
  go_enter Tryz.func53, Tryz.ntmps53
  go_wp2_with (first | (go_at_call 93; have _u := h4; clear _u; refine (prCombines _ _ _).mono ?_; rintro e w5 ⟨f5, q5, rfl, h5, X5, Y5⟩) | (go_at_call 93; have _u := h3; clear _u; refine (prCombines _ _ _).mono ?_; rintro e w4 ⟨f4, q4, rfl, h4, X4, Y4⟩) | (go_at_call 93; have _u := h2; clear _u; refine (prCombines _ _ _).mono ?_; rintro e w3 ⟨f3, q3, rfl, h3, X3, Y3⟩) | (go_at_call 93; have _u := h1; clear _u; refine (prCombines _ _ _).mono ?_; rintro e w2 ⟨f2, q2, rfl, h2, X2, Y2⟩) | (go_at_call 93; refine (prCombines _ _ _).mono ?_; rintro e w1 ⟨f1, q1, rfl, h1, X1, Y1⟩))
  obtain ⟨wA, hwA⟩ : ∃ wA, wA = w5.alloc (.cells #[.nilFunc, .nilFunc, .nilFunc, .nilFunc, .nilFunc, .nilFunc, .nilFunc, .nilFunc, .nilFunc, .nilFunc, .nilFunc, .nilFunc, .nilFunc, .nilFunc, .nilFunc, .nilFunc, .nilFunc, .nilFunc, .nilFunc, .nilFunc, .nilFunc, .nilFunc, .nilFunc] 119) := ⟨_, rfl⟩
  rw [← hwA]
  have XA : Hid (Box wA w5.heap.size 119 #[.nilFunc, .nilFunc, .nilFunc, .nilFunc, .nilFunc, .nilFunc, .nilFunc, .nilFunc, .nilFunc, .nilFunc, .nilFunc, .nilFunc, .nilFunc, .nilFunc, .nilFunc, .nilFunc, .nilFunc, .nilFunc, .nilFunc, .nilFunc, .nilFunc, .nilFunc, .nilFunc]) := Lib.hid (by rw [hwA]; exact Box.new _ _ _)
  have bA : Hid (Below w5.heap.size w5 wA) := Lib.hid (by rw [hwA]; exact alloc_below _ _)
  clear hwA
  have NA : Hid (BoxN wA w5.heap.size 119 23) := Lib.hid ⟨_, XA.out, rfl⟩
  refine upon_ex (v := Next.skip) (Q := fun r => Oper.upon _ _ _ _ _ r) (Good := fun W => Box W w5.heap.size 119 #[.func (.func 83) #[.pointer (some ⟨a.p, 0, none⟩)] #[], .func (.func 84) #[.pointer (some ⟨a.p, 0, none⟩)] #[], .func (.func 85) #[.pointer (some ⟨a.p, 0, none⟩)] #[], .func (.func 86) #[.pointer (some ⟨a.p, 0, none⟩)] #[], .func (.func 87) #[.pointer (some ⟨a.p, 0, none⟩)] #[], .func (.func 88) #[.pointer (some ⟨a.p, 0, none⟩)] #[], .func (.func 89) #[.pointer (some ⟨a.p, 0, none⟩)] #[], .func (.func 90) #[.pointer (some ⟨a.p, 0, none⟩)] #[], .func (.func 91) #[.pointer (some ⟨a.p, 0, none⟩)] #[], .func (.func 92) #[.pointer (some ⟨a.p, 0, none⟩)] #[], .func (.func 122) #[] #[.pointer (some ⟨f1, 0, none⟩), .pointer (some ⟨q1, 0, none⟩)], .func (.func 122) #[] #[.pointer (some ⟨f2, 0, none⟩), .pointer (some ⟨q2, 0, none⟩)], .func (.func 122) #[] #[.pointer (some ⟨f3, 0, none⟩), .pointer (some ⟨q3, 0, none⟩)], .func (.func 122) #[] #[.pointer (some ⟨f4, 0, none⟩), .pointer (some ⟨q4, 0, none⟩)], .func (.func 122) #[] #[.pointer (some ⟨f5, 0, none⟩), .pointer (some ⟨q5, 0, none⟩)], .func (.func 99) #[.pointer (some ⟨a.p, 0, none⟩)] #[], .func (.func 100) #[.pointer (some ⟨a.p, 0, none⟩)] #[], .func (.func 101) #[.pointer (some ⟨a.p, 0, none⟩)] #[], .func (.func 102) #[.pointer (some ⟨a.p, 0, none⟩)] #[], .func (.func 103) #[.pointer (some ⟨a.p, 0, none⟩)] #[], .func (.func 104) #[.pointer (some ⟨a.p, 0, none⟩)] #[], .func (.func 105) #[.pointer (some ⟨a.p, 0, none⟩)] #[], .func (.func 106) #[.pointer (some ⟨a.p, 0, none⟩)] #[]] ∧ Below w5.heap.size wA W) ⟨?wB, ?h1, ?h2⟩ ?_
  case h1 =>
    rw [chain_step NA.out (by decide)]
    rw [chain_step (NA.out.set 0 _) (by decide)]
    rw [chain_step ((NA.out.set 0 _).set 1 _) (by decide)]
    rw [chain_step (((NA.out.set 0 _).set 1 _).set 2 _) (by decide)]
    rw [chain_step ((((NA.out.set 0 _).set 1 _).set 2 _).set 3 _) (by decide)]
    rw [chain_step (((((NA.out.set 0 _).set 1 _).set 2 _).set 3 _).set 4 _) (by decide)]
    rw [chain_step ((((((NA.out.set 0 _).set 1 _).set 2 _).set 3 _).set 4 _).set 5 _) (by decide)]
    rw [chain_step (((((((NA.out.set 0 _).set 1 _).set 2 _).set 3 _).set 4 _).set 5 _).set 6 _) (by decide)]
    rw [chain_step ((((((((NA.out.set 0 _).set 1 _).set 2 _).set 3 _).set 4 _).set 5 _).set 6 _).set 7 _) (by decide)]
    rw [chain_step (((((((((NA.out.set 0 _).set 1 _).set 2 _).set 3 _).set 4 _).set 5 _).set 6 _).set 7 _).set 8 _) (by decide)]
    rw [chain_step ((((((((((NA.out.set 0 _).set 1 _).set 2 _).set 3 _).set 4 _).set 5 _).set 6 _).set 7 _).set 8 _).set 9 _) (by decide)]
    rw [chain_step (((((((((((NA.out.set 0 _).set 1 _).set 2 _).set 3 _).set 4 _).set 5 _).set 6 _).set 7 _).set 8 _).set 9 _).set 10 _) (by decide)]
    rw [chain_step ((((((((((((NA.out.set 0 _).set 1 _).set 2 _).set 3 _).set 4 _).set 5 _).set 6 _).set 7 _).set 8 _).set 9 _).set 10 _).set 11 _) (by decide)]
    rw [chain_step (((((((((((((NA.out.set 0 _).set 1 _).set 2 _).set 3 _).set 4 _).set 5 _).set 6 _).set 7 _).set 8 _).set 9 _).set 10 _).set 11 _).set 12 _) (by decide)]
    rw [chain_step ((((((((((((((NA.out.set 0 _).set 1 _).set 2 _).set 3 _).set 4 _).set 5 _).set 6 _).set 7 _).set 8 _).set 9 _).set 10 _).set 11 _).set 12 _).set 13 _) (by decide)]
    rw [chain_step (((((((((((((((NA.out.set 0 _).set 1 _).set 2 _).set 3 _).set 4 _).set 5 _).set 6 _).set 7 _).set 8 _).set 9 _).set 10 _).set 11 _).set 12 _).set 13 _).set 14 _) (by decide)]
    rw [chain_step ((((((((((((((((NA.out.set 0 _).set 1 _).set 2 _).set 3 _).set 4 _).set 5 _).set 6 _).set 7 _).set 8 _).set 9 _).set 10 _).set 11 _).set 12 _).set 13 _).set 14 _).set 15 _) (by decide)]
    rw [chain_step (((((((((((((((((NA.out.set 0 _).set 1 _).set 2 _).set 3 _).set 4 _).set 5 _).set 6 _).set 7 _).set 8 _).set 9 _).set 10 _).set 11 _).set 12 _).set 13 _).set 14 _).set 15 _).set 16 _) (by decide)]
    rw [chain_step ((((((((((((((((((NA.out.set 0 _).set 1 _).set 2 _).set 3 _).set 4 _).set 5 _).set 6 _).set 7 _).set 8 _).set 9 _).set 10 _).set 11 _).set 12 _).set 13 _).set 14 _).set 15 _).set 16 _).set 17 _) (by decide)]
    rw [chain_step (((((((((((((((((((NA.out.set 0 _).set 1 _).set 2 _).set 3 _).set 4 _).set 5 _).set 6 _).set 7 _).set 8 _).set 9 _).set 10 _).set 11 _).set 12 _).set 13 _).set 14 _).set 15 _).set 16 _).set 17 _).set 18 _) (by decide)]
    rw [chain_step ((((((((((((((((((((NA.out.set 0 _).set 1 _).set 2 _).set 3 _).set 4 _).set 5 _).set 6 _).set 7 _).set 8 _).set 9 _).set 10 _).set 11 _).set 12 _).set 13 _).set 14 _).set 15 _).set 16 _).set 17 _).set 18 _).set 19 _) (by decide)]
    rw [chain_step (((((((((((((((((((((NA.out.set 0 _).set 1 _).set 2 _).set 3 _).set 4 _).set 5 _).set 6 _).set 7 _).set 8 _).set 9 _).set 10 _).set 11 _).set 12 _).set 13 _).set 14 _).set 15 _).set 16 _).set 17 _).set 18 _).set 19 _).set 20 _) (by decide)]
    rw [store_step ((((((((((((((((((((((NA.out.set 0 _).set 1 _).set 2 _).set 3 _).set 4 _).set 5 _).set 6 _).set 7 _).set 8 _).set 9 _).set 10 _).set 11 _).set 12 _).set 13 _).set 14 _).set 15 _).set 16 _).set 17 _).set 18 _).set 19 _).set 20 _).set 21 _) (by decide)]
    rfl
  case h2 => exact Box.all23 XA.out _ _ _ _ _ _ _ _ _ _ _ _ _ _ _ _ _ _ _ _ _ _ _
  rintro w6 ⟨X6', h6'⟩
  have X6 := Lib.hid X6'
  have h6 := Lib.hid (bA.out.trans h6')
  clear X6' h6' NA XA bA
  go_wp2
  have b5 := bt h5.out h6.out
  have b4 := bt h4.out b5
  have b3 := bt h3.out b4
  have b2 := bt h2.out b3
  have b1 := bt h1.out b2
  have b0 : Below w.heap.size w w6 := bt (alloc_below _ _) b1
  have XI := Lib.hid ((Box.new w 82 #[.int .i64 op, .int .i64 reg, .int .i64 arg]).step b1)
  have U1 := Lib.hid (X1.out.step b2)
  have V1 := Lib.hid (Y1.out.step b2)
  have U2 := Lib.hid (X2.out.step b3)
  have V2 := Lib.hid (Y2.out.step b3)
  have U3 := Lib.hid (X3.out.step b4)
  have V3 := Lib.hid (Y3.out.step b4)
  have U4 := Lib.hid (X4.out.step b5)
  have V4 := Lib.hid (Y4.out.step b5)
  have U5 := Lib.hid (X5.out.step h6.out)
  have V5 := Lib.hid (Y5.out.step h6.out)
  have P6 := Lib.hid ((HP.out.step b0).step (Below.refl _ _).drew)
  have R6 : Hid (Runs a.L w w6.drew) := Lib.hid ((Runs.below b0 HP.out.size).trans (Runs.drew a.L w6))
  clear HP b0 b1 b2 b3 b4 b5 h1 h2 h3 h4 h5 X1 X2 X3 X4 X5 Y1 Y2 Y3 Y4 Y5 h6
  generalize w5.heap.size = B at X6 ⊢
  have i0 := XI.out.cell 0 rfl
  have i1 := XI.out.cell 1 rfl
  have i2 := XI.out.cell 2 rfl
  obtain ⟨_, hr, ha, _, _⟩ := HI.out
  clear XI HI
  have ho : op = 0 ∨ op = 1 ∨ op = 2 ∨ op = 3 := by have := HO.out; omega
  clear HO
  rcases ho with rfl | rfl | rfl | rfl
  · have e0 : sN = s := by rw [← HN.out]; rfl
    rw [e0]
    have HC := Lib.hid (fun W (q : PrAt W a d m s) => prNop a d m s 0 reg arg W hd hm q)
    unfold GPr at HC
    have v0 := X6.out.cell 0 rfl
    clear e0 HN hr ha
    go_still_tail 5, (by kernel_rfl)
    change wpList _ _ _ _ _ w6.drew
    clear i0 i1 i2 v0
    go_wp2_with fail
    refine (HC.out _ P6.out).mono ?_
    rintro e w7 ⟨rfl, P7, R7⟩
    go_wp2
    go_end0
    exact ⟨rfl, P7, Lib.hid (R6.out.trans R7.out)⟩
  · have e0 : sN = s := by rw [← HN.out]; rfl
    rw [e0]
    have HC := Lib.hid (fun W (q : PrAt W a d m s) => prHalt a d m s 1 reg arg W hd hm q)
    unfold GPr at HC
    have v0 := X6.out.cell 1 rfl
    clear e0 HN hr ha
    go_still_tail 5, (by kernel_rfl)
    change wpList _ _ _ _ _ w6.drew
    clear i0 i1 i2 v0
    go_wp2_with fail
    refine (HC.out _ P6.out).mono ?_
    rintro e w7 ⟨rfl, P7, R7⟩
    go_wp2
    go_end0
    exact ⟨rfl, P7, Lib.hid (R6.out.trans R7.out)⟩
  · have e0 : sN = s := by rw [← HN.out]; rfl
    rw [e0]
    have HC := Lib.hid (fun W (q : PrAt W a d m s) => prReti a d m s 2 reg arg W hd hm q)
    unfold GPr at HC
    have v0 := X6.out.cell 2 rfl
    clear e0 HN hr ha
    go_still_tail 5, (by kernel_rfl)
    change wpList _ _ _ _ _ w6.drew
    clear i0 i1 i2 v0
    go_wp2_with fail
    refine (HC.out _ P6.out).mono ?_
    rintro e w7 ⟨rfl, P7, R7⟩
    go_wp2
    go_end0
    exact ⟨rfl, P7, Lib.hid (R6.out.trans R7.out)⟩
  · have e0 : sN = s := by rw [← HN.out]; rfl
    rw [e0]
    have HC := Lib.hid (fun W (q : PrAt W a d m s) => prEi a d m s 3 reg arg W hd hm q)
    unfold GPr at HC
    have v0 := X6.out.cell 3 rfl
    clear e0 HN hr ha
    go_still_tail 5, (by kernel_rfl)
    change wpList _ _ _ _ _ w6.drew
    clear i0 i1 i2 v0
    go_wp2_with fail
    refine (HC.out _ P6.out).mono ?_
    rintro e w7 ⟨rfl, P7, R7⟩
    go_wp2
    go_end0
    exact ⟨rfl, P7, Lib.hid (R6.out.trans R7.out)⟩

set_option maxRecDepth 100000 in
set_option maxHeartbeats 8000000 in
theorem prPerform4 (a : PA) (d : CD) (m : MD) (s op reg arg : Int) (w : World) (ho : 4 ≤ op ∧ op ≤ 7) (hi : InsOk op reg arg) (hd : d.Ok) (hm : m.Ok) (h : PrAt w a d m s) :
    Calls Tryz.prog 53 #[.pointer (some ⟨a.p, 0, none⟩), .agg #[.int .i64 op, .int .i64 reg, .int .i64 arg]] w (GPr a (execD d m op reg arg) (execM d m op reg arg) (if op = 20 then arg else s) w) := by
  have HP := Lib.hid h
  have HI := Lib.hid hi
  have HO := Lib.hid ho
  clear ho
  clear h hi
  generalize hN : (if op = 20 then arg else s) = sN
  have HN := Lib.hid hN
  clear hN
  go_enter Tryz.func53, Tryz.ntmps53
  go_wp2_with (first | (go_at_call 93; have _u := h4; clear _u; refine (prCombines _ _ _).mono ?_; rintro e w5 ⟨f5, q5, rfl, h5, X5, Y5⟩) | (go_at_call 93; have _u := h3; clear _u; refine (prCombines _ _ _).mono ?_; rintro e w4 ⟨f4, q4, rfl, h4, X4, Y4⟩) | (go_at_call 93; have _u := h2; clear _u; refine (prCombines _ _ _).mono ?_; rintro e w3 ⟨f3, q3, rfl, h3, X3, Y3⟩) | (go_at_call 93; have _u := h1; clear _u; refine (prCombines _ _ _).mono ?_; rintro e w2 ⟨f2, q2, rfl, h2, X2, Y2⟩) | (go_at_call 93; refine (prCombines _ _ _).mono ?_; rintro e w1 ⟨f1, q1, rfl, h1, X1, Y1⟩))
  obtain ⟨wA, hwA⟩ : ∃ wA, wA = w5.alloc (.cells #[.nilFunc, .nilFunc, .nilFunc, .nilFunc, .nilFunc, .nilFunc, .nilFunc, .nilFunc, .nilFunc, .nilFunc, .nilFunc, .nilFunc, .nilFunc, .nilFunc, .nilFunc, .nilFunc, .nilFunc, .nilFunc, .nilFunc, .nilFunc, .nilFunc, .nilFunc, .nilFunc] 119) := ⟨_, rfl⟩
  rw [← hwA]
  have XA : Hid (Box wA w5.heap.size 119 #[.nilFunc, .nilFunc, .nilFunc, .nilFunc, .nilFunc, .nilFunc, .nilFunc, .nilFunc, .nilFunc, .nilFunc, .nilFunc, .nilFunc, .nilFunc, .nilFunc, .nilFunc, .nilFunc, .nilFunc, .nilFunc, .nilFunc, .nilFunc, .nilFunc, .nilFunc, .nilFunc]) := Lib.hid (by rw [hwA]; exact Box.new _ _ _)
  have bA : Hid (Below w5.heap.size w5 wA) := Lib.hid (by rw [hwA]; exact alloc_below _ _)
  clear hwA
  have NA : Hid (BoxN wA w5.heap.size 119 23) := Lib.hid ⟨_, XA.out, rfl⟩
  refine upon_ex (v := Next.skip) (Q := fun r => Oper.upon _ _ _ _ _ r) (Good := fun W => Box W w5.heap.size 119 #[.func (.func 83) #[.pointer (some ⟨a.p, 0, none⟩)] #[], .func (.func 84) #[.pointer (some ⟨a.p, 0, none⟩)] #[], .func (.func 85) #[.pointer (some ⟨a.p, 0, none⟩)] #[], .func (.func 86) #[.pointer (some ⟨a.p, 0, none⟩)] #[], .func (.func 87) #[.pointer (some ⟨a.p, 0, none⟩)] #[], .func (.func 88) #[.pointer (some ⟨a.p, 0, none⟩)] #[], .func (.func 89) #[.pointer (some ⟨a.p, 0, none⟩)] #[], .func (.func 90) #[.pointer (some ⟨a.p, 0, none⟩)] #[], .func (.func 91) #[.pointer (some ⟨a.p, 0, none⟩)] #[], .func (.func 92) #[.pointer (some ⟨a.p, 0, none⟩)] #[], .func (.func 122) #[] #[.pointer (some ⟨f1, 0, none⟩), .pointer (some ⟨q1, 0, none⟩)], .func (.func 122) #[] #[.pointer (some ⟨f2, 0, none⟩), .pointer (some ⟨q2, 0, none⟩)], .func (.func 122) #[] #[.pointer (some ⟨f3, 0, none⟩), .pointer (some ⟨q3, 0, none⟩)], .func (.func 122) #[] #[.pointer (some ⟨f4, 0, none⟩), .pointer (some ⟨q4, 0, none⟩)], .func (.func 122) #[] #[.pointer (some ⟨f5, 0, none⟩), .pointer (some ⟨q5, 0, none⟩)], .func (.func 99) #[.pointer (some ⟨a.p, 0, none⟩)] #[], .func (.func 100) #[.pointer (some ⟨a.p, 0, none⟩)] #[], .func (.func 101) #[.pointer (some ⟨a.p, 0, none⟩)] #[], .func (.func 102) #[.pointer (some ⟨a.p, 0, none⟩)] #[], .func (.func 103) #[.pointer (some ⟨a.p, 0, none⟩)] #[], .func (.func 104) #[.pointer (some ⟨a.p, 0, none⟩)] #[], .func (.func 105) #[.pointer (some ⟨a.p, 0, none⟩)] #[], .func (.func 106) #[.pointer (some ⟨a.p, 0, none⟩)] #[]] ∧ Below w5.heap.size wA W) ⟨?wB, ?h1, ?h2⟩ ?_
  case h1 =>
    rw [chain_step NA.out (by decide)]
    rw [chain_step (NA.out.set 0 _) (by decide)]
    rw [chain_step ((NA.out.set 0 _).set 1 _) (by decide)]
    rw [chain_step (((NA.out.set 0 _).set 1 _).set 2 _) (by decide)]
    rw [chain_step ((((NA.out.set 0 _).set 1 _).set 2 _).set 3 _) (by decide)]
    rw [chain_step (((((NA.out.set 0 _).set 1 _).set 2 _).set 3 _).set 4 _) (by decide)]
    rw [chain_step ((((((NA.out.set 0 _).set 1 _).set 2 _).set 3 _).set 4 _).set 5 _) (by decide)]
    rw [chain_step (((((((NA.out.set 0 _).set 1 _).set 2 _).set 3 _).set 4 _).set 5 _).set 6 _) (by decide)]
    rw [chain_step ((((((((NA.out.set 0 _).set 1 _).set 2 _).set 3 _).set 4 _).set 5 _).set 6 _).set 7 _) (by decide)]
    rw [chain_step (((((((((NA.out.set 0 _).set 1 _).set 2 _).set 3 _).set 4 _).set 5 _).set 6 _).set 7 _).set 8 _) (by decide)]
    rw [chain_step ((((((((((NA.out.set 0 _).set 1 _).set 2 _).set 3 _).set 4 _).set 5 _).set 6 _).set 7 _).set 8 _).set 9 _) (by decide)]
    rw [chain_step (((((((((((NA.out.set 0 _).set 1 _).set 2 _).set 3 _).set 4 _).set 5 _).set 6 _).set 7 _).set 8 _).set 9 _).set 10 _) (by decide)]
    rw [chain_step ((((((((((((NA.out.set 0 _).set 1 _).set 2 _).set 3 _).set 4 _).set 5 _).set 6 _).set 7 _).set 8 _).set 9 _).set 10 _).set 11 _) (by decide)]
    rw [chain_step (((((((((((((NA.out.set 0 _).set 1 _).set 2 _).set 3 _).set 4 _).set 5 _).set 6 _).set 7 _).set 8 _).set 9 _).set 10 _).set 11 _).set 12 _) (by decide)]
    rw [chain_step ((((((((((((((NA.out.set 0 _).set 1 _).set 2 _).set 3 _).set 4 _).set 5 _).set 6 _).set 7 _).set 8 _).set 9 _).set 10 _).set 11 _).set 12 _).set 13 _) (by decide)]
    rw [chain_step (((((((((((((((NA.out.set 0 _).set 1 _).set 2 _).set 3 _).set 4 _).set 5 _).set 6 _).set 7 _).set 8 _).set 9 _).set 10 _).set 11 _).set 12 _).set 13 _).set 14 _) (by decide)]
    rw [chain_step ((((((((((((((((NA.out.set 0 _).set 1 _).set 2 _).set 3 _).set 4 _).set 5 _).set 6 _).set 7 _).set 8 _).set 9 _).set 10 _).set 11 _).set 12 _).set 13 _).set 14 _).set 15 _) (by decide)]
    rw [chain_step (((((((((((((((((NA.out.set 0 _).set 1 _).set 2 _).set 3 _).set 4 _).set 5 _).set 6 _).set 7 _).set 8 _).set 9 _).set 10 _).set 11 _).set 12 _).set 13 _).set 14 _).set 15 _).set 16 _) (by decide)]
    rw [chain_step ((((((((((((((((((NA.out.set 0 _).set 1 _).set 2 _).set 3 _).set 4 _).set 5 _).set 6 _).set 7 _).set 8 _).set 9 _).set 10 _).set 11 _).set 12 _).set 13 _).set 14 _).set 15 _).set 16 _).set 17 _) (by decide)]
    rw [chain_step (((((((((((((((((((NA.out.set 0 _).set 1 _).set 2 _).set 3 _).set 4 _).set 5 _).set 6 _).set 7 _).set 8 _).set 9 _).set 10 _).set 11 _).set 12 _).set 13 _).set 14 _).set 15 _).set 16 _).set 17 _).set 18 _) (by decide)]
    rw [chain_step ((((((((((((((((((((NA.out.set 0 _).set 1 _).set 2 _).set 3 _).set 4 _).set 5 _).set 6 _).set 7 _).set 8 _).set 9 _).set 10 _).set 11 _).set 12 _).set 13 _).set 14 _).set 15 _).set 16 _).set 17 _).set 18 _).set 19 _) (by decide)]
    rw [chain_step (((((((((((((((((((((NA.out.set 0 _).set 1 _).set 2 _).set 3 _).set 4 _).set 5 _).set 6 _).set 7 _).set 8 _).set 9 _).set 10 _).set 11 _).set 12 _).set 13 _).set 14 _).set 15 _).set 16 _).set 17 _).set 18 _).set 19 _).set 20 _) (by decide)]
    rw [store_step ((((((((((((((((((((((NA.out.set 0 _).set 1 _).set 2 _).set 3 _).set 4 _).set 5 _).set 6 _).set 7 _).set 8 _).set 9 _).set 10 _).set 11 _).set 12 _).set 13 _).set 14 _).set 15 _).set 16 _).set 17 _).set 18 _).set 19 _).set 20 _).set 21 _) (by decide)]
    rfl
  case h2 => exact Box.all23 XA.out _ _ _ _ _ _ _ _ _ _ _ _ _ _ _ _ _ _ _ _ _ _ _
  rintro w6 ⟨X6', h6'⟩
  have X6 := Lib.hid X6'
  have h6 := Lib.hid (bA.out.trans h6')
  clear X6' h6' NA XA bA
  go_wp2
  have b5 := bt h5.out h6.out
  have b4 := bt h4.out b5
  have b3 := bt h3.out b4
  have b2 := bt h2.out b3
  have b1 := bt h1.out b2
  have b0 : Below w.heap.size w w6 := bt (alloc_below _ _) b1
  have XI := Lib.hid ((Box.new w 82 #[.int .i64 op, .int .i64 reg, .int .i64 arg]).step b1)
  have U1 := Lib.hid (X1.out.step b2)
  have V1 := Lib.hid (Y1.out.step b2)
  have U2 := Lib.hid (X2.out.step b3)
  have V2 := Lib.hid (Y2.out.step b3)
  have U3 := Lib.hid (X3.out.step b4)
  have V3 := Lib.hid (Y3.out.step b4)
  have U4 := Lib.hid (X4.out.step b5)
  have V4 := Lib.hid (Y4.out.step b5)
  have U5 := Lib.hid (X5.out.step h6.out)
  have V5 := Lib.hid (Y5.out.step h6.out)
  have P6 := Lib.hid ((HP.out.step b0).step (Below.refl _ _).drew)
  have R6 : Hid (Runs a.L w w6.drew) := Lib.hid ((Runs.below b0 HP.out.size).trans (Runs.drew a.L w6))
  clear HP b0 b1 b2 b3 b4 b5 h1 h2 h3 h4 h5 X1 X2 X3 X4 X5 Y1 Y2 Y3 Y4 Y5 h6
  generalize w5.heap.size = B at X6 ⊢
  have i0 := XI.out.cell 0 rfl
  have i1 := XI.out.cell 1 rfl
  have i2 := XI.out.cell 2 rfl
  obtain ⟨_, hr, ha, _, _⟩ := HI.out
  clear XI HI
  have ho : op = 4 ∨ op = 5 ∨ op = 6 ∨ op = 7 := by have := HO.out; omega
  clear HO
  rcases ho with rfl | rfl | rfl | rfl
  · have e0 : sN = s := by rw [← HN.out]; rfl
    rw [e0]
    have HC := Lib.hid (fun W (q : PrAt W a d m s) => prDi a d m s 4 reg arg W hd hm q)
    unfold GPr at HC
    have v0 := X6.out.cell 4 rfl
    clear e0 HN hr ha
    go_still_tail 5, (by kernel_rfl)
    change wpList _ _ _ _ _ w6.drew
    clear i0 i1 i2 v0
    go_wp2_with fail
    refine (HC.out _ P6.out).mono ?_
    rintro e w7 ⟨rfl, P7, R7⟩
    go_wp2
    go_end0
    exact ⟨rfl, P7, Lib.hid (R6.out.trans R7.out)⟩
  · have e0 : sN = s := by rw [← HN.out]; rfl
    rw [e0]
    have HC := Lib.hid (fun W (q : PrAt W a d m s) => prLdi a d m s 5 reg arg W hr hd hm q)
    unfold GPr at HC
    have v0 := X6.out.cell 5 rfl
    clear e0 HN hr ha
    go_still_tail 5, (by kernel_rfl)
    change wpList _ _ _ _ _ w6.drew
    clear i0 i1 i2 v0
    go_wp2_with fail
    refine (HC.out _ P6.out).mono ?_
    rintro e w7 ⟨rfl, P7, R7⟩
    go_wp2
    go_end0
    exact ⟨rfl, P7, Lib.hid (R6.out.trans R7.out)⟩
  · have e0 : sN = s := by rw [← HN.out]; rfl
    rw [e0]
    have HC := Lib.hid (fun W (q : PrAt W a d m s) => prLd a d m s 6 reg arg W hr ha hd hm q)
    unfold GPr at HC
    have v0 := X6.out.cell 6 rfl
    clear e0 HN hr ha
    go_still_tail 5, (by kernel_rfl)
    change wpList _ _ _ _ _ w6.drew
    clear i0 i1 i2 v0
    go_wp2_with fail
    refine (HC.out _ P6.out).mono ?_
    rintro e w7 ⟨rfl, P7, R7⟩
    go_wp2
    go_end0
    exact ⟨rfl, P7, Lib.hid (R6.out.trans R7.out)⟩
  · have e0 : sN = s := by rw [← HN.out]; rfl
    rw [e0]
    have HC := Lib.hid (fun W (q : PrAt W a d m s) => prSt a d m s 7 reg arg W hr ha hd hm q)
    unfold GPr at HC
    have v0 := X6.out.cell 7 rfl
    clear e0 HN hr ha
    go_still_tail 5, (by kernel_rfl)
    change wpList _ _ _ _ _ w6.drew
    clear i0 i1 i2 v0
    go_wp2_with fail
    refine (HC.out _ P6.out).mono ?_
    rintro e w7 ⟨rfl, P7, R7⟩
    go_wp2
    go_end0
    exact ⟨rfl, P7, Lib.hid (R6.out.trans R7.out)⟩
end Go.Proofs.YtcchhbkbnbphhaaGreatDoor
