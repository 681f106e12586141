/- Slices of Timer: rows of 3 cells, as lists; the laws' own functions over them. Written by gen_r.py. -/
import Derived.Test.YtagdclbpgkilgaaGenC
import Derived.Test.YtagdclbpgkilgaaGenK
import Derived.Test.YtagdclbpgkilgaaGenTimer
import Derived.Test.YtagdclbpgkilgaaOpen
namespace Go.Proofs.Ytagdclbpgkilgaa
open Go.RowKit Go.ChangeShapes Go.WideShapes

abbrev TTimer := Int × Int × Bool
def zTimer : TTimer := (0, 0, false)
def rowTimer (x : TTimer) : List Value := [.int .i64 (x.1), .int .i64 (x.2.1), .bool (x.2.2)]
def rTimer (rs : List TTimer) : Lf := .R 54 3 (by decide) (rs.map rowTimer)
theorem len_rTimer (rs : List TTimer) : (rTimer rs).len = rs.length * 3 := by simp [rTimer, Lf.len]
theorem sz_rTimer (rs : List TTimer) : (rTimer rs).sz = rs.length := by simp [rTimer, Lf.sz]
theorem fit_rTimer {rs : List TTimer} (h : (rTimer rs).fit) : rs.length ≤ maxLen := by simpa [rTimer, Lf.fit] using h
theorem rowTimer_at (rs : List TTimer) (i : Nat) (h : i < rs.length) : (rs.map rowTimer).getD i [] = rowTimer (rs.getD i zTimer) := by
  simp [List.getD_eq_getElem?_getD, h]
/-- What the slice at A holds. -/
def RowTimer (w : World) (A : Option Addr) (rs : List TTimer) : Prop := RowL w A 3 (rs.map rowTimer)
def OwnTimer (w : World) (lo hi : Nat) (A : Option Addr) (rs : List TTimer) : Prop := OwnR w lo hi 54 A 3 (rs.map rowTimer)
theorem RowTimer.below {w w' : World} {A : Option Addr} {rs : List TTimer} (h : RowTimer w A rs) (hb : Below w.heap.size w w') : RowTimer w' A rs := RowL.below h hb
theorem OwnTimer.reads {w : World} {lo hi : Nat} {A : Option Addr} {rs : List TTimer} (h : OwnTimer w lo hi A rs) : RowTimer w A rs := OwnR.reads h
theorem OwnTimer.below {w w' : World} {lo hi : Nat} {A : Option Addr} {rs : List TTimer} (h : OwnTimer w lo hi A rs) (hb : Below w.heap.size w w') : OwnTimer w' lo hi A rs := OwnR.below h hb
theorem rep_rTimer {w : World} {A : Option Addr} {n c : Nat} {rs : List TTimer} : RepL w (.slice A n c) (rTimer rs) ↔ rs.length = n ∧ RowTimer w A rs := by
  constructor
  · rintro ⟨A', c', e, h⟩
    injection e with e1 e2 e3
    subst e1
    exact ⟨by rw [e2, List.length_map], h⟩
  · rintro ⟨rfl, h⟩
    exact ⟨A, c, by rw [List.length_map], h⟩
theorem own_rTimer {w : World} {lo hi : Nat} {A : Option Addr} {n c : Nat} {rs : List TTimer} : OwnL w lo hi (.slice A n c) (rTimer rs) ↔ rs.length = n ∧ OwnTimer w lo hi A rs := by
  constructor
  · rintro ⟨A', c', e, h⟩
    injection e with e1 e2 e3
    subst e1
    exact ⟨by rw [e2, List.length_map], h⟩
  · rintro ⟨rfl, h⟩
    exact ⟨A, c, by rw [List.length_map], h⟩
theorem RowTimer.at {w : World} {A : Option Addr} {rs : List TTimer} (h : RowTimer w A rs) (i : Nat) (hi : i < rs.length) : ∃ b off, A = some ⟨b, off, none⟩ ∧ w.cell? ⟨b, off + i * 3, none⟩ = some (.int .i64 (rs.getD i zTimer).1) ∧ w.cell? ⟨b, off + i * 3 + 1, none⟩ = some (.int .i64 (rs.getD i zTimer).2.1) ∧ w.cell? ⟨b, off + i * 3 + 2, none⟩ = some (.bool (rs.getD i zTimer).2.2) := by
  have hr := rowTimer_at rs i hi
  obtain ⟨b0, o0, e0, h0⟩ := h i (by simpa using hi) 0 (by decide)
  rw [hr] at h0
  obtain ⟨b1, o1, e1, h1⟩ := h i (by simpa using hi) 1 (by decide)
  rw [hr] at h1
  obtain ⟨b2, o2, e2, h2⟩ := h i (by simpa using hi) 2 (by decide)
  rw [hr] at h2
  subst e0
  injection e1 with e1
  injection e1 with p1 q1 _
  subst p1 q1
  injection e2 with e2
  injection e2 with p2 q2 _
  subst p2 q2
  exact ⟨b0, o0, rfl, h0, h1, h2⟩
def marksTimer (q n : Nat) : List TTimer := (List.range n).map fun i => (((q + i * 3 + 0 : Nat) : Int), ((q + i * 3 + 1 : Nat) : Int), (decide ((q + i * 3 + 2) % 3 = 0)))
theorem marksTimer_len (q n : Nat) : (marksTimer q n).length = n := by simp [marksTimer]
theorem marksTimer_at (q n i : Nat) (h : i < n) : (marksTimer q n).getD i zTimer = (((q + i * 3 + 0 : Nat) : Int), ((q + i * 3 + 1 : Nat) : Int), (decide ((q + i * 3 + 2) % 3 = 0))) := by simp [marksTimer, List.getD_eq_getElem?_getD, h]
theorem marks_rTimer (q : Nat) (rs : List TTimer) : (rTimer rs).marks q = rTimer (marksTimer q rs.length) := by
  unfold rTimer
  simp only [Lf.marks]
  congr 1
  unfold markRows marksTimer
  rw [List.length_map, List.map_map]
  refine List.map_congr_left fun i hi => ?_
  have hi' : i < rs.length := by simpa using hi
  rw [rowTimer_at rs i hi']
  obtain ⟨x0, x1, x2⟩ := rs.getD i zTimer
  rfl
set_option maxRecDepth 100000 in
theorem szLRTimer (v : Value) (rs : List TTimer) (left : Int) (w : World) (h : RepL w v (rTimer rs)) (hf : (rTimer rs).fit) (h0 : 0 ≤ left) (h1 : left ≤ 1048576) :
    Calls Try.prog 27 #[v, .int .i64 left] w (Left left (Lf.sz (rTimer rs)) w) := by
  obtain ⟨A, c, rfl, hr⟩ := h
  have hn := fit_rTimer hf
  unfold maxLen at hn
  rw [sz_rTimer, List.length_map]
  clear hr hf
  generalize rs.length = n at hn ⊢
  by_cases hb : left < n
  · have hb' : left - (n : Int) < 0 := by omega
    go_enter Try.func27, Try.ntmps27
    go_wp2
    go_ret
    exact ⟨.inl rfl, Below.refl _ _⟩
  · have hb' : ¬ left - (n : Int) < 0 := by omega
    go_enter Try.func27, Try.ntmps27
    go_wp2
    go_ret
    exact ⟨.inr ⟨rfl, by omega⟩, Below.refl _ _⟩

set_option maxRecDepth 100000 in
theorem infoTimer : (Try.prog.info? 54).map (fun i => (i.zero, i.size, i.bytes)) = some (some (.agg #[.int .i64 0, .int .i64 0, .bool false]), 3, 24) := by kernel_rfl
set_option maxRecDepth 100000 in
theorem makeTimer (n : Nat) (hn : n ≤ 1048576) (W : World) : (Instr.makeSlice 43 (.int .i64 (n : Int)) (.int .i64 (n : Int))).run Try.prog W = .ok (.slice (some ⟨W.heap.size, 0, none⟩) n n) (W.alloc (.cells (madeCells #[.int .i64 0, .int .i64 0, .bool false] (n * 3)) 54)) := by
  obtain ⟨i, hi, hzz⟩ := Option.map_eq_some_iff.1 infoTimer
  simp only [Prod.mk.injEq] at hzz
  obtain ⟨hz, hs, hb⟩ := hzz
  have hr := run_make (P := Try.prog) W 43 54 i _ Try.underlying43 hi hz .i64 .i64 n n (by omega) (Int.le_refl _) (by rw [hb]; omega) (by omega)
  simp only [Int.toNat_natCast, hs] at hr
  exact hr
def cellTimer (rs : List TTimer) (x : Nat) : Value := (rowTimer (rs.getD (x / 3) zTimer)).getD (x % 3) undef
def fillTimer (rs : List TTimer) (q x : Nat) : Value := if x < q * 3 then cellTimer rs x else (rowTimer zTimer).getD (x % 3) undef
theorem madeTimer (w : World) (n : Nat) : (w.alloc (.cells (madeCells #[.int .i64 0, .int .i64 0, .bool false] (n * 3)) 54)).rowIs w.heap.size 54 (n * 3) (fillTimer [] 0) :=
  ⟨_, heap_alloc_new _ _, size_madeCells _ _, fun i hi => by
    have : i % 3 = 0 ∨ i % 3 = 1 ∨ i % 3 = 2 := by omega
    rcases this with h | h | h <;> simp [fillTimer, rowTimer, zTimer, madeCells, hi, h]⟩
theorem fillTimer_next (rs : List TTimer) (q x : Nat) (x0 : Int) (x1 : Int) (x2 : Bool) (h : rs.getD q zTimer = (x0, x1, x2)) :
    (if x = q * 3 + 2 then Value.bool x2 else (if x = q * 3 + 1 then Value.int .i64 x1 else (if x = q * 3 then Value.int .i64 x0 else fillTimer rs q x))) = fillTimer rs (q + 1) x := by
  unfold fillTimer
  by_cases e2 : x = q * 3 + 2
  · subst e2
    rw [if_pos rfl, if_pos (by omega)]
    unfold cellTimer
    rw [show (q * 3 + 2) / 3 = q by omega, show (q * 3 + 2) % 3 = 2 by omega, h]
    rfl
  · rw [if_neg e2]
    by_cases e1 : x = q * 3 + 1
    · subst e1
      rw [if_pos rfl, if_pos (by omega)]
      unfold cellTimer
      rw [show (q * 3 + 1) / 3 = q by omega, show (q * 3 + 1) % 3 = 1 by omega, h]
      rfl
    · rw [if_neg e1]
      by_cases e0 : x = q * 3
      · subst e0
        rw [if_pos rfl, if_pos (by omega)]
        unfold cellTimer
        rw [show (q * 3) / 3 = q by omega, show (q * 3) % 3 = 0 by omega, h]
        rfl
      · rw [if_neg e0]
        by_cases e3 : x < q * 3
        · rw [if_pos e3, if_pos (by omega)]
        · rw [if_neg e3, if_neg (by omega)]
theorem own_fillTimer {w : World} {lo hi b : Nat} {rs : List TTimer} (h : w.rowIs b 54 (rs.length * 3) (fillTimer rs rs.length)) (h1 : lo ≤ b) (h2 : b < hi) : OwnTimer w lo hi (some ⟨b, 0, none⟩) rs :=
  .inr ⟨b, rs.length * 3, _, rfl, h1, h2, by simp, h, fun i hi' j hj => by
    have hi'' : i < rs.length := by simpa using hi'
    rw [rowTimer_at rs i hi'']
    unfold fillTimer cellTimer
    rw [if_pos (by omega), show (i * 3 + j) / 3 = i by omega, show (i * 3 + j) % 3 = j by omega]⟩
set_option maxRecDepth 100000 in
set_option maxHeartbeats 2000000 in
theorem toLRTimer (v : Value) (rs : List TTimer) (w : World) (h : RepL w v (rTimer rs)) (hn : rs.length ≤ 1048576) :
    Calls Try.prog 29 #[v] w (GivesL rs.length (rTimer rs) w) := by
  obtain ⟨A, c, rfl, hr⟩ := h
  have H : Hid (RowTimer w A rs) := Lib.hid hr
  rw [List.length_map]
  clear hr
  generalize hl : rs.length = n at hn ⊢
  have HL := Lib.hid hl
  clear hl
  have hmk := makeTimer n hn
  go_enter Try.func29, Try.ntmps29
  go_wp2
  clear hmk
  have HR := Lib.hid (madeTimer w n)
  have hbel : Below w.heap.size w (w.alloc (.cells (madeCells #[.int .i64 0, .int .i64 0, .bool false] (n * 3)) 54)) := (Below.refl _ _).alloc (Nat.le_refl _) _
  generalize w.alloc (.cells (madeCells #[.int .i64 0, .int .i64 0, .bool false] (n * 3)) 54) = wa at hbel HR ⊢
  go_loopw [4] (fun i wr => ∃ q : Nat, q ≤ n ∧ i = .int .i64 q ∧ Below w.heap.size w wr ∧ Hid (wr.rowIs w.heap.size 54 (n * 3) (fillTimer rs q))) (fun i _ => n - (intOf i).toNat)
  case atStart => exact ⟨0, Nat.zero_le _, rfl, hbel, Lib.hid (HR.out.congr (fun i _ => by simp [fillTimer]))⟩
  case round =>
    obtain ⟨q, hq, rfl, hbw, HRW⟩ := hrel
    by_cases hlt : q < n
    · obtain ⟨b, off, rfl, hc0, hc1, hc2⟩ := (H.out.below hbw).at q (by rw [HL.out]; exact hlt)
      obtain ⟨x0, x1, x2, hx⟩ : ∃ x0 x1 x2, rs.getD q zTimer = (x0, x1, x2) := ⟨_, _, _, rfl⟩
      rw [hx] at hc0 hc1 hc2
      have HX := Lib.hid hx
      clear hx
      have hi : (q : Int) < (n : Int) := by omega
      go_wp2_with fail
      refine (toTimerA x0 x1 x2 wr).mono ?_
      rintro e w1 ⟨rfl, hb1⟩
      have hr1 := row_below hb1 HRW.out HRW.out.lt

      have hd0 := hr1.cell (i := q * 3) (by omega)
      have hf0 := hr1.frozen (q * 3)
      have hd1 := hr1.cell (i := q * 3 + 1) (by omega)
      have hf1 := hr1.frozen (q * 3 + 1)
      have hd2 := hr1.cell (i := q * 3 + 2) (by omega)
      have hf2 := hr1.frozen (q * 3 + 2)
      have HW := Lib.hid (((hr1.set (q * 3) (.int .i64 x0)).set (q * 3 + 1) (.int .i64 x1)).set (q * 3 + 2) (.bool x2))
      have hbe : Below w.heap.size w w1 := hbw.trans (hb1.mono hbw.size)
      clear hr1 HRW hc0 hc1 hc2
      generalize fillTimer rs q (q * 3) = y0 at hd0
      generalize fillTimer rs q (q * 3 + 1) = y1 at hd1
      generalize fillTimer rs q (q * 3 + 2) = y2 at hd2
      go_wp2
      go_roundw
      case rel =>
        exact ⟨q + 1, by omega, by go_num, (((hbe.setCell (Nat.le_refl _) _).setCell (Nat.le_refl _) _).setCell (Nat.le_refl _) _), Lib.hid (HW.out.congr (fun i _ => fillTimer_next rs q i x0 x1 x2 HX.out))⟩
      case measure => simp [intOf]; omega
    · go_wp2
      go_ret
      have : q = n := by omega
      subst this
      refine ⟨_, _, rfl, Lib.hid (own_rTimer.2 ⟨HL.out, own_fillTimer (by rw [HL.out]; exact HRW.out) (Nat.le_refl _) HRW.out.lt⟩), Lib.hid (capL (Nat.le_refl _)), hbw⟩

set_option maxRecDepth 100000 in
set_option maxHeartbeats 2000000 in
theorem eqLRTimer (v v' : Value) (rs : List TTimer) (w : World) (h : RepL w v (rTimer rs)) (h' : RepL w v' (rTimer rs)) (hn : rs.length ≤ maxLen) :
    Calls Try.prog 30 #[v, v'] w fun e w' => e = .returned (.bool true) ∧ Below w.heap.size w w' := by
  obtain ⟨A, c, rfl, hr⟩ := h
  obtain ⟨A', c', rfl, hr'⟩ := h'
  have H : Hid (RowTimer w A rs) := Lib.hid hr
  have H' : Hid (RowTimer w A' rs) := Lib.hid hr'
  unfold maxLen at hn
  rw [List.length_map]
  clear hr hr'
  generalize hl : rs.length = n at hn ⊢
  have HL := Lib.hid hl
  clear hl
  have hb : ((n : Int) != (n : Int)) = false := by simp
  go_enter Try.func30, Try.ntmps30
  go_wp2
  go_loopw [5] (fun i wr => ∃ q : Nat, q ≤ n ∧ i = .int .i64 q ∧ Below w.heap.size w wr) (fun i _ => n - (intOf i).toNat)
  case atStart => exact ⟨0, Nat.zero_le _, rfl, Below.refl _ _⟩
  case round =>
    obtain ⟨q, hq, rfl, hbw⟩ := hrel
    by_cases hlt : q < n
    · obtain ⟨b, off, rfl, hc0, hc1, hc2⟩ := (H.out.below hbw).at q (by rw [HL.out]; exact hlt)
      obtain ⟨b', off', rfl, hd0, hd1, hd2⟩ := (H'.out.below hbw).at q (by rw [HL.out]; exact hlt)
      generalize rs.getD q zTimer = x at hc0 hc1 hc2 hd0 hd1 hd2
      obtain ⟨x0, x1, x2⟩ := x
      have hi : (q : Int) < (n : Int) := by omega
      have HC := Lib.hid (fun W => eqTimerA x0 x1 x2 W)
      go_wp2
      go_still_tail 8, (by kernel_rfl)
      change wpList _ _ _ _ _ wr.drew
      clear hc0 hc1 hc2 hd0 hd1 hd2
      have hbd := hbw.drew
      generalize wr.drew = wd at hbd ⊢
      go_wp2_with fail
      refine (HC.out _).mono ?_
      rintro e w1 ⟨rfl, hb1⟩
      go_wp2
      go_roundw
      case rel => exact ⟨q + 1, by omega, by go_num, hbd.trans (hb1.mono hbd.size)⟩
      case measure => simp [intOf]; omega
    · go_wp2
      go_ret
      exact ⟨rfl, hbw⟩

def markCTimer (q x : Nat) : Value := if x % 3 = 0 then .int .i64 ((q + x : Nat) : Int) else if x % 3 = 1 then .int .i64 ((q + x : Nat) : Int) else .bool (decide ((q + x) % 3 = 0))
theorem own_marksTimer {w : World} {lo hi b m q n : Nat} {f : Nat → Value} (h : w.rowIs b 54 m (fun x => if x < n * 3 then markCTimer q x else f x)) (hm : n * 3 ≤ m) (h1 : lo ≤ b) (h2 : b < hi) : OwnTimer w lo hi (some ⟨b, 0, none⟩) (marksTimer q n) :=
  .inr ⟨b, m, _, rfl, h1, h2, by simpa [marksTimer_len] using hm, h, fun i hi' j hj => by
    have hi'' : i < n := by simpa [marksTimer_len] using hi'
    rw [rowTimer_at _ i (by rw [marksTimer_len]; exact hi''), marksTimer_at q n i hi'']
    show (if i * 3 + j < n * 3 then markCTimer q (i * 3 + j) else _) = _
    rw [if_pos (by omega)]
    have hmod : (i * 3 + j) % 3 = j := by omega
    unfold markCTimer rowTimer
    rw [hmod, show q + (i * 3 + j) = q + i * 3 + j by omega]
    have : j = 0 ∨ j = 1 ∨ j = 2 := by omega
    rcases this with rfl | rfl | rfl <;> rfl⟩
set_option maxRecDepth 100000 in
set_option maxHeartbeats 4000000 in
theorem markLRTimer (v : Value) (rs : List TTimer) (k lo hi : Nat) (w : World) (h : OwnL w lo hi v (rTimer rs)) (hk : 1 ≤ k) (hn0 : (rTimer rs).len ≤ 4294967296) (hk2 : k ≤ 549755813888) :
    Calls Try.prog 32 #[v, .int .i64 (k : Int)] w (MarkedL lo hi v (rTimer rs) k w) := by
  obtain ⟨A, c, rfl, ho⟩ := h
  have hn : rs.length ≤ 4294967296 := by rw [len_rTimer] at hn0; omega
  clear hn0
  unfold MarkedL
  rw [marks_rTimer, len_rTimer, List.length_map]
  generalize hl : rs.length = n at hn ⊢
  have ho : OwnTimer w lo hi A rs := ho
  rcases Nat.eq_zero_or_pos n with hz | hz
  · subst hz
    clear ho
    go_enter Try.func32, Try.ntmps32
    go_wp2
    go_loop [5, 1] (fun i kk => i = .int .i64 0 ∧ kk = .int .i64 k) (fun _ _ => 0)
    case atStart => exact ⟨rfl, rfl⟩
    case round =>
      obtain ⟨rfl, rfl⟩ := hrel
      go_wp2
      go_ret
      exact ⟨by simp, Lib.hid (own_rTimer.2 ⟨rfl, .inl rfl⟩), touch_none (Btw.refl _ _ _)⟩
  · rcases ho with hnil | ⟨b, m, f, rfl, h1, h2, hm, hr, hf⟩
    · have hx := congrArg List.length hnil
      rw [List.length_map, List.length_nil] at hx
      omega
    have HM : Hid (n * 3 ≤ m) := Lib.hid (by rw [← hl]; simpa using hm)
    have HR := Lib.hid hr
    clear hm hr hf hl
    go_enter Try.func32, Try.ntmps32
    go_wp2
    go_loopw [5, 1] (fun i kk wr => ∃ j : Nat, j ≤ n ∧ i = .int .i64 j ∧ kk = .int .i64 ((k + j * 3 : Nat) : Int) ∧ Btw b (b + 1) w wr ∧ Hid (wr.rowIs b 54 m (fun x => if x < j * 3 then markCTimer k x else f x))) (fun i _ _ => n - (intOf i).toNat)
    case atStart => exact ⟨0, Nat.zero_le _, rfl, rfl, Btw.refl _ _ _, Lib.hid (HR.out.congr (fun i _ => by simp))⟩
    case round =>
      obtain ⟨j, hj, rfl, rfl, hbw, HW⟩ := hrel
      by_cases hlt : j < n
      · have hi' : (j : Int) < (n : Int) := by omega
        have hc0 := HW.out.cell (i := j * 3) (by have := HM.out; omega)
        rw [if_neg (by omega)] at hc0
        have hf0 := HW.out.frozen (j * 3)
        have hc1 := HW.out.cell (i := j * 3 + 1) (by have := HM.out; omega)
        rw [if_neg (by omega)] at hc1
        have hf1 := HW.out.frozen (j * 3 + 1)
        have hc2 := HW.out.cell (i := j * 3 + 2) (by have := HM.out; omega)
        rw [if_neg (by omega)] at hc2
        have hf2 := HW.out.frozen (j * 3 + 2)
        generalize hz : k + j * 3 = z
        have HZ := Lib.hid hz
        have hz1 : z + 3 ≤ 1099511627776 := by omega
        have hr2 : (((z : Int) + 1 + 1) % 3 == 0) = decide ((z + 2) % 3 = 0) := by rw [Bool.eq_iff_iff]; simp; omega
        generalize hq2 : decide ((z + 2) % 3 = 0) = q2 at hr2
        have HQ2 := Lib.hid hq2
        clear hq2
        have HS := Lib.hid (((HW.out.set (j * 3) (.int .i64 (z : Int))).set (j * 3 + 1) (.int .i64 ((z : Int) + 1))).set (j * 3 + 2) (.bool q2))
        clear HW hz
        generalize f (j * 3) = y0 at hc0
        generalize f (j * 3 + 1) = y1 at hc1
        generalize f (j * 3 + 2) = y2 at hc2
        go_wp2
        go_roundw
        case rel =>
          refine ⟨j + 1, by omega, by go_num, by have := HZ.out; congr 1; omega, (((hbw.setCell (Nat.le_refl _) (Nat.lt_succ_self _) _).setCell (Nat.le_refl _) (Nat.lt_succ_self _) _).setCell (Nat.le_refl _) (Nat.lt_succ_self _) _), Lib.hid (HS.out.congr (fun x _ => ?_))⟩
          show (if x = j * 3 + 2 then Value.bool q2 else (if x = j * 3 + 1 then Value.int .i64 ((z : Int) + 1) else (if x = j * 3 then Value.int .i64 (z : Int) else (if x < j * 3 then markCTimer k x else f x)))) = _
          by_cases e2 : x = j * 3 + 2
          · subst e2
            rw [if_pos rfl, if_pos (by omega)]
            unfold markCTimer
            have hmod : (j * 3 + 2) % 3 = 2 := by omega
            rw [hmod, show k + (j * 3 + 2) = z + 2 by have := HZ.out; omega, HQ2.out]
            rfl
          · rw [if_neg e2]
            by_cases e1 : x = j * 3 + 1
            · subst e1
              rw [if_pos rfl, if_pos (by omega)]
              unfold markCTimer
              have hmod : (j * 3 + 1) % 3 = 1 := by omega
              have hzz : ((k + (j * 3 + 1) : Nat) : Int) = (z : Int) + 1 := by have := HZ.out; omega
              rw [hzz, hmod]
              rfl
            · rw [if_neg e1]
              by_cases e0 : x = j * 3
              · subst e0
                rw [if_pos rfl, if_pos (by omega)]
                unfold markCTimer
                have hmod : (j * 3) % 3 = 0 := by omega
                have hzz : ((k + (j * 3) : Nat) : Int) = (z : Int) := by have := HZ.out; omega
                rw [hzz, hmod]
                rfl
              · rw [if_neg e0]
                by_cases e3 : x < j * 3
                · rw [if_pos e3, if_pos (by omega)]
                · rw [if_neg e3, if_neg (by omega)]
        case measure => simp [intOf]; omega
      · go_wp2
        go_ret
        have ej : j = n := by omega
        subst ej
        exact ⟨rfl, Lib.hid (own_rTimer.2 ⟨marksTimer_len _ _, own_marksTimer HW.out HM.out h1 h2⟩), touch_blk hz hbw⟩

set_option maxRecDepth 100000 in
set_option maxHeartbeats 4000000 in
theorem heldLRTimer (v : Value) (rs : List TTimer) (k : Nat) (w : World) (h : RepL w v ((rTimer rs).marks k)) (hk : 1 ≤ k) (hn0 : (rTimer rs).len ≤ 4294967296) (hk2 : k ≤ 549755813888) :
    Calls Try.prog 33 #[v, .int .i64 (k : Int)] w fun e w' => e = .returned (.int .i64 ((k + (rTimer rs).len : Nat) : Int)) ∧ Below w.heap.size w w' := by
  rw [marks_rTimer] at h
  have hn : rs.length ≤ 4294967296 := by rw [len_rTimer] at hn0; omega
  clear hn0
  obtain ⟨A, c, rfl, hr⟩ := h
  have H : Hid (RowTimer w A (marksTimer k rs.length)) := Lib.hid hr
  rw [len_rTimer, List.length_map, marksTimer_len]
  clear hr
  generalize rs.length = n at hn H ⊢
  go_enter Try.func33, Try.ntmps33
  go_wp2
  go_loop [5, 1] (fun i kk => ∃ j : Nat, j ≤ n ∧ i = .int .i64 j ∧ kk = .int .i64 ((k + j * 3 : Nat) : Int)) (fun i _ => n - (intOf i).toNat)
  case atStart => exact ⟨0, Nat.zero_le _, rfl, rfl⟩
  case round =>
    obtain ⟨j, hj, rfl, rfl⟩ := hrel
    by_cases hlt : j < n
    · obtain ⟨b, off, rfl, hc0, hc1, hc2⟩ := H.out.at j (by rw [marksTimer_len]; exact hlt)
      rw [marksTimer_at k n j hlt] at hc0 hc1 hc2
      have hi' : (j : Int) < (n : Int) := by omega
      generalize hz : k + j * 3 = z at hc0 hc1 hc2
      have HZ := Lib.hid hz
      have hz1 : z + 3 ≤ 1099511627776 := by omega
      clear hz
      have g0 : w.cell? ⟨b, off + j * 3, none⟩ = some (.int .i64 ((z : Int))) := hc0
      have q0 : (((z : Int)) != ((z : Int))) = false := by simp
      have g1 : w.cell? ⟨b, off + j * 3 + 1, none⟩ = some (.int .i64 ((z : Int) + 1)) := hc1.trans (by first | rfl | (congr 2; omega))
      have q1 : (((z : Int) + 1) != ((z : Int) + 1)) = false := by simp
      have r2 : (((z : Int) + 1 + 1) % 3 == 0) = decide ((z + 2) % 3 = 0) := by rw [Bool.eq_iff_iff]; simp; omega
      have g2 : w.cell? ⟨b, off + j * 3 + 2, none⟩ = some (.bool (decide ((z + 2) % 3 = 0))) := hc2
      generalize decide ((z + 2) % 3 = 0) = t2 at r2 g2
      have q2 : (t2 != t2) = false := by simp
      clear hc0 hc1 hc2
      go_wp2
      go_round
      case rel => exact ⟨j + 1, by omega, by go_num, by have := HZ.out; congr 1; omega⟩
      case measure => simp [intOf]; omega
    · go_wp2
      go_ret
      have ej : j = n := by omega
      subst ej
      exact ⟨rfl, Below.refl _ _⟩

end Go.Proofs.Ytagdclbpgkilgaa
