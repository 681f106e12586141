/- Texts of this claim, one behind the other: GenRChannel, OpenBools, GenOpen. -/
import Derived.Test.YtngoijchebfolaaM8
/- Slices of Channel: rows of 4 cells, as lists; the laws' own functions over them. Written by gen_r.py. -/
namespace Go.Proofs.Ytngoijchebfolaa
open Go.RowKit Go.ChangeShapes Go.WideShapes

abbrev TChannel := Int × Int × Int × Int
def zChannel : TChannel := (0, 0, 0, 0)
def rowChannel (x : TChannel) : List Value := [.int .i64 (x.1), .int .i64 (x.2.1), .int .i64 (x.2.2.1), .int .i64 (x.2.2.2)]
def rChannel (rs : List TChannel) : Lf := .R 36 4 (by decide) (rs.map rowChannel)
theorem len_rChannel (rs : List TChannel) : (rChannel rs).len = rs.length * 4 := by simp [rChannel, Lf.len]
theorem sz_rChannel (rs : List TChannel) : (rChannel rs).sz = rs.length := by simp [rChannel, Lf.sz]
theorem fit_rChannel {rs : List TChannel} (h : (rChannel rs).fit) : rs.length ≤ maxLen := by simpa [rChannel, Lf.fit] using h
theorem rowChannel_at (rs : List TChannel) (i : Nat) (h : i < rs.length) : (rs.map rowChannel).getD i [] = rowChannel (rs.getD i zChannel) := by
  simp [List.getD_eq_getElem?_getD, h]
/-- What the slice at A holds. -/
def RowChannel (w : World) (A : Option Addr) (rs : List TChannel) : Prop := RowL w A 4 (rs.map rowChannel)
def OwnChannel (w : World) (lo hi : Nat) (A : Option Addr) (rs : List TChannel) : Prop := OwnR w lo hi 36 A 4 (rs.map rowChannel)
theorem RowChannel.below {w w' : World} {A : Option Addr} {rs : List TChannel} (h : RowChannel w A rs) (hb : Below w.heap.size w w') : RowChannel w' A rs := RowL.below h hb
theorem OwnChannel.reads {w : World} {lo hi : Nat} {A : Option Addr} {rs : List TChannel} (h : OwnChannel w lo hi A rs) : RowChannel w A rs := OwnR.reads h
theorem OwnChannel.below {w w' : World} {lo hi : Nat} {A : Option Addr} {rs : List TChannel} (h : OwnChannel w lo hi A rs) (hb : Below w.heap.size w w') : OwnChannel w' lo hi A rs := OwnR.below h hb
theorem rep_rChannel {w : World} {A : Option Addr} {n c : Nat} {rs : List TChannel} : RepL w (.slice A n c) (rChannel rs) ↔ rs.length = n ∧ RowChannel w A rs := by
  constructor
  · rintro ⟨A', c', e, h⟩
    injection e with e1 e2 e3
    subst e1
    exact ⟨by rw [e2, List.length_map], h⟩
  · rintro ⟨rfl, h⟩
    exact ⟨A, c, by rw [List.length_map], h⟩
theorem own_rChannel {w : World} {lo hi : Nat} {A : Option Addr} {n c : Nat} {rs : List TChannel} : OwnL w lo hi (.slice A n c) (rChannel rs) ↔ rs.length = n ∧ OwnChannel w lo hi A rs := by
  constructor
  · rintro ⟨A', c', e, h⟩
    injection e with e1 e2 e3
    subst e1
    exact ⟨by rw [e2, List.length_map], h⟩
  · rintro ⟨rfl, h⟩
    exact ⟨A, c, by rw [List.length_map], h⟩
theorem RowChannel.at {w : World} {A : Option Addr} {rs : List TChannel} (h : RowChannel w A rs) (i : Nat) (hi : i < rs.length) : ∃ b off, A = some ⟨b, off, none⟩ ∧ w.cell? ⟨b, off + i * 4, none⟩ = some (.int .i64 (rs.getD i zChannel).1) ∧ w.cell? ⟨b, off + i * 4 + 1, none⟩ = some (.int .i64 (rs.getD i zChannel).2.1) ∧ w.cell? ⟨b, off + i * 4 + 2, none⟩ = some (.int .i64 (rs.getD i zChannel).2.2.1) ∧ w.cell? ⟨b, off + i * 4 + 3, none⟩ = some (.int .i64 (rs.getD i zChannel).2.2.2) := by
  have hr := rowChannel_at rs i hi
  obtain ⟨b0, o0, e0, h0⟩ := h i (by simpa using hi) 0 (by decide)
  rw [hr] at h0
  obtain ⟨b1, o1, e1, h1⟩ := h i (by simpa using hi) 1 (by decide)
  rw [hr] at h1
  obtain ⟨b2, o2, e2, h2⟩ := h i (by simpa using hi) 2 (by decide)
  rw [hr] at h2
  obtain ⟨b3, o3, e3, h3⟩ := h i (by simpa using hi) 3 (by decide)
  rw [hr] at h3
  subst e0
  injection e1 with e1
  injection e1 with p1 q1 _
  subst p1 q1
  injection e2 with e2
  injection e2 with p2 q2 _
  subst p2 q2
  injection e3 with e3
  injection e3 with p3 q3 _
  subst p3 q3
  exact ⟨b0, o0, rfl, h0, h1, h2, h3⟩
def marksChannel (q n : Nat) : List TChannel := (List.range n).map fun i => (((q + i * 4 + 0 : Nat) : Int), ((q + i * 4 + 1 : Nat) : Int), ((q + i * 4 + 2 : Nat) : Int), ((q + i * 4 + 3 : Nat) : Int))
theorem marksChannel_len (q n : Nat) : (marksChannel q n).length = n := by simp [marksChannel]
theorem marksChannel_at (q n i : Nat) (h : i < n) : (marksChannel q n).getD i zChannel = (((q + i * 4 + 0 : Nat) : Int), ((q + i * 4 + 1 : Nat) : Int), ((q + i * 4 + 2 : Nat) : Int), ((q + i * 4 + 3 : Nat) : Int)) := by simp [marksChannel, List.getD_eq_getElem?_getD, h]
theorem marks_rChannel (q : Nat) (rs : List TChannel) : (rChannel rs).marks q = rChannel (marksChannel q rs.length) := by
  unfold rChannel
  simp only [Lf.marks]
  congr 1
  unfold markRows marksChannel
  rw [List.length_map, List.map_map]
  refine List.map_congr_left fun i hi => ?_
  have hi' : i < rs.length := by simpa using hi
  rw [rowChannel_at rs i hi']
  obtain ⟨x0, x1, x2, x3⟩ := rs.getD i zChannel
  rfl
set_option maxRecDepth 100000 in
theorem szLRChannel (v : Value) (rs : List TChannel) (left : Int) (w : World) (h : RepL w v (rChannel rs)) (hf : (rChannel rs).fit) (h0 : 0 ≤ left) (h1 : left ≤ 1048576) :
    Calls Try.prog 30 #[v, .int .i64 left] w (Left left (Lf.sz (rChannel rs)) w) := by
  obtain ⟨A, c, rfl, hr⟩ := h
  have hn := fit_rChannel hf
  unfold maxLen at hn
  rw [sz_rChannel, List.length_map]
  clear hr hf
  generalize rs.length = n at hn ⊢
  by_cases hb : left < n
  · have hb' : left - (n : Int) < 0 := by omega
    go_enter Try.func30, Try.ntmps30
    go_wp2
    go_ret
    exact ⟨.inl rfl, Below.refl _ _⟩
  · have hb' : ¬ left - (n : Int) < 0 := by omega
    go_enter Try.func30, Try.ntmps30
    go_wp2
    go_ret
    exact ⟨.inr ⟨rfl, by omega⟩, Below.refl _ _⟩

set_option maxRecDepth 100000 in
theorem infoChannel : (Try.prog.info? 36).map (fun i => (i.zero, i.size, i.bytes)) = some (some (.agg #[.int .i64 0, .int .i64 0, .int .i64 0, .int .i64 0]), 4, 32) := by kernel_rfl
set_option maxRecDepth 100000 in
theorem makeChannel (n : Nat) (hn : n ≤ 1048576) (W : World) : (Instr.makeSlice 31 (.int .i64 (n : Int)) (.int .i64 (n : Int))).run Try.prog W = .ok (.slice (some ⟨W.heap.size, 0, none⟩) n n) (W.alloc (.cells (madeCells #[.int .i64 0, .int .i64 0, .int .i64 0, .int .i64 0] (n * 4)) 36)) := by
  obtain ⟨i, hi, hzz⟩ := Option.map_eq_some_iff.1 infoChannel
  simp only [Prod.mk.injEq] at hzz
  obtain ⟨hz, hs, hb⟩ := hzz
  have hr := run_make (P := Try.prog) W 31 36 i _ Try.underlying31 hi hz .i64 .i64 n n (by omega) (Int.le_refl _) (by rw [hb]; omega) (by omega)
  simp only [Int.toNat_natCast, hs] at hr
  exact hr
def cellChannel (rs : List TChannel) (x : Nat) : Value := (rowChannel (rs.getD (x / 4) zChannel)).getD (x % 4) undef
def fillChannel (rs : List TChannel) (q x : Nat) : Value := if x < q * 4 then cellChannel rs x else (rowChannel zChannel).getD (x % 4) undef
theorem madeChannel (w : World) (n : Nat) : (w.alloc (.cells (madeCells #[.int .i64 0, .int .i64 0, .int .i64 0, .int .i64 0] (n * 4)) 36)).rowIs w.heap.size 36 (n * 4) (fillChannel [] 0) :=
  ⟨_, heap_alloc_new _ _, size_madeCells _ _, fun i hi => by
    have : i % 4 = 0 ∨ i % 4 = 1 ∨ i % 4 = 2 ∨ i % 4 = 3 := by omega
    rcases this with h | h | h | h <;> simp [fillChannel, rowChannel, zChannel, madeCells, hi, h]⟩
theorem fillChannel_next (rs : List TChannel) (q x : Nat) (x0 : Int) (x1 : Int) (x2 : Int) (x3 : Int) (h : rs.getD q zChannel = (x0, x1, x2, x3)) :
    (if x = q * 4 + 3 then Value.int .i64 x3 else (if x = q * 4 + 2 then Value.int .i64 x2 else (if x = q * 4 + 1 then Value.int .i64 x1 else (if x = q * 4 then Value.int .i64 x0 else fillChannel rs q x)))) = fillChannel rs (q + 1) x := by
  unfold fillChannel
  by_cases e3 : x = q * 4 + 3
  · subst e3
    rw [if_pos rfl, if_pos (by omega)]
    unfold cellChannel
    rw [show (q * 4 + 3) / 4 = q by omega, show (q * 4 + 3) % 4 = 3 by omega, h]
    rfl
  · rw [if_neg e3]
    by_cases e2 : x = q * 4 + 2
    · subst e2
      rw [if_pos rfl, if_pos (by omega)]
      unfold cellChannel
      rw [show (q * 4 + 2) / 4 = q by omega, show (q * 4 + 2) % 4 = 2 by omega, h]
      rfl
    · rw [if_neg e2]
      by_cases e1 : x = q * 4 + 1
      · subst e1
        rw [if_pos rfl, if_pos (by omega)]
        unfold cellChannel
        rw [show (q * 4 + 1) / 4 = q by omega, show (q * 4 + 1) % 4 = 1 by omega, h]
        rfl
      · rw [if_neg e1]
        by_cases e0 : x = q * 4
        · subst e0
          rw [if_pos rfl, if_pos (by omega)]
          unfold cellChannel
          rw [show (q * 4) / 4 = q by omega, show (q * 4) % 4 = 0 by omega, h]
          rfl
        · rw [if_neg e0]
          by_cases e4 : x < q * 4
          · rw [if_pos e4, if_pos (by omega)]
          · rw [if_neg e4, if_neg (by omega)]
theorem own_fillChannel {w : World} {lo hi b : Nat} {rs : List TChannel} (h : w.rowIs b 36 (rs.length * 4) (fillChannel rs rs.length)) (h1 : lo ≤ b) (h2 : b < hi) : OwnChannel w lo hi (some ⟨b, 0, none⟩) rs :=
  .inr ⟨b, rs.length * 4, _, rfl, h1, h2, by simp, h, fun i hi' j hj => by
    have hi'' : i < rs.length := by simpa using hi'
    rw [rowChannel_at rs i hi'']
    unfold fillChannel cellChannel
    rw [if_pos (by omega), show (i * 4 + j) / 4 = i by omega, show (i * 4 + j) % 4 = j by omega]⟩
set_option maxRecDepth 100000 in
set_option maxHeartbeats 2000000 in
theorem toLRChannel (v : Value) (rs : List TChannel) (w : World) (h : RepL w v (rChannel rs)) (hn : rs.length ≤ 1048576) :
    Calls Try.prog 32 #[v] w (GivesL rs.length (rChannel rs) w) := by
  obtain ⟨A, c, rfl, hr⟩ := h
  have H : Hid (RowChannel w A rs) := Lib.hid hr
  rw [List.length_map]
  clear hr
  generalize hl : rs.length = n at hn ⊢
  have HL := Lib.hid hl
  clear hl
  have hmk := makeChannel n hn
  go_enter Try.func32, Try.ntmps32
  go_wp2
  clear hmk
  have HR := Lib.hid (madeChannel w n)
  have hbel : Below w.heap.size w (w.alloc (.cells (madeCells #[.int .i64 0, .int .i64 0, .int .i64 0, .int .i64 0] (n * 4)) 36)) := (Below.refl _ _).alloc (Nat.le_refl _) _
  generalize w.alloc (.cells (madeCells #[.int .i64 0, .int .i64 0, .int .i64 0, .int .i64 0] (n * 4)) 36) = wa at hbel HR ⊢
  go_loopw [4] (fun i wr => ∃ q : Nat, q ≤ n ∧ i = .int .i64 q ∧ Below w.heap.size w wr ∧ Hid (wr.rowIs w.heap.size 36 (n * 4) (fillChannel rs q))) (fun i _ => n - (intOf i).toNat)
  case atStart => exact ⟨0, Nat.zero_le _, rfl, hbel, Lib.hid (HR.out.congr (fun i _ => by simp [fillChannel]))⟩
  case round =>
    obtain ⟨q, hq, rfl, hbw, HRW⟩ := hrel
    by_cases hlt : q < n
    · obtain ⟨b, off, rfl, hc0, hc1, hc2, hc3⟩ := (H.out.below hbw).at q (by rw [HL.out]; exact hlt)
      obtain ⟨x0, x1, x2, x3, hx⟩ : ∃ x0 x1 x2 x3, rs.getD q zChannel = (x0, x1, x2, x3) := ⟨_, _, _, _, rfl⟩
      rw [hx] at hc0 hc1 hc2 hc3
      have HX := Lib.hid hx
      clear hx
      have hi : (q : Int) < (n : Int) := by omega
      go_wp2_with fail
      refine (toChannelA x0 x1 x2 x3 wr).mono ?_
      rintro e w1 ⟨rfl, hb1⟩
      have hr1 := row_below hb1 HRW.out HRW.out.lt

      have hd0 := hr1.cell (i := q * 4) (by omega)
      have hf0 := hr1.frozen (q * 4)
      have hd1 := hr1.cell (i := q * 4 + 1) (by omega)
      have hf1 := hr1.frozen (q * 4 + 1)
      have hd2 := hr1.cell (i := q * 4 + 2) (by omega)
      have hf2 := hr1.frozen (q * 4 + 2)
      have hd3 := hr1.cell (i := q * 4 + 3) (by omega)
      have hf3 := hr1.frozen (q * 4 + 3)
      have HW := Lib.hid ((((hr1.set (q * 4) (.int .i64 x0)).set (q * 4 + 1) (.int .i64 x1)).set (q * 4 + 2) (.int .i64 x2)).set (q * 4 + 3) (.int .i64 x3))
      have hbe : Below w.heap.size w w1 := hbw.trans (hb1.mono hbw.size)
      clear hr1 HRW hc0 hc1 hc2 hc3
      generalize fillChannel rs q (q * 4) = y0 at hd0
      generalize fillChannel rs q (q * 4 + 1) = y1 at hd1
      generalize fillChannel rs q (q * 4 + 2) = y2 at hd2
      generalize fillChannel rs q (q * 4 + 3) = y3 at hd3
      go_wp2
      go_roundw
      case rel =>
        exact ⟨q + 1, by omega, by go_num, ((((hbe.setCell (Nat.le_refl _) _).setCell (Nat.le_refl _) _).setCell (Nat.le_refl _) _).setCell (Nat.le_refl _) _), Lib.hid (HW.out.congr (fun i _ => fillChannel_next rs q i x0 x1 x2 x3 HX.out))⟩
      case measure => simp [intOf]; omega
    · go_wp2
      go_ret
      have : q = n := by omega
      subst this
      refine ⟨_, _, rfl, Lib.hid (own_rChannel.2 ⟨HL.out, own_fillChannel (by rw [HL.out]; exact HRW.out) (Nat.le_refl _) HRW.out.lt⟩), Lib.hid (capL (Nat.le_refl _)), hbw⟩

set_option maxRecDepth 100000 in
set_option maxHeartbeats 2000000 in
theorem eqLRChannel (v v' : Value) (rs : List TChannel) (w : World) (h : RepL w v (rChannel rs)) (h' : RepL w v' (rChannel rs)) (hn : rs.length ≤ maxLen) :
    Calls Try.prog 33 #[v, v'] w fun e w' => e = .returned (.bool true) ∧ Below w.heap.size w w' := by
  obtain ⟨A, c, rfl, hr⟩ := h
  obtain ⟨A', c', rfl, hr'⟩ := h'
  have H : Hid (RowChannel w A rs) := Lib.hid hr
  have H' : Hid (RowChannel w A' rs) := Lib.hid hr'
  unfold maxLen at hn
  rw [List.length_map]
  clear hr hr'
  generalize hl : rs.length = n at hn ⊢
  have HL := Lib.hid hl
  clear hl
  have hb : ((n : Int) != (n : Int)) = false := by simp
  go_enter Try.func33, Try.ntmps33
  go_wp2
  go_loopw [5] (fun i wr => ∃ q : Nat, q ≤ n ∧ i = .int .i64 q ∧ Below w.heap.size w wr) (fun i _ => n - (intOf i).toNat)
  case atStart => exact ⟨0, Nat.zero_le _, rfl, Below.refl _ _⟩
  case round =>
    obtain ⟨q, hq, rfl, hbw⟩ := hrel
    by_cases hlt : q < n
    · obtain ⟨b, off, rfl, hc0, hc1, hc2, hc3⟩ := (H.out.below hbw).at q (by rw [HL.out]; exact hlt)
      obtain ⟨b', off', rfl, hd0, hd1, hd2, hd3⟩ := (H'.out.below hbw).at q (by rw [HL.out]; exact hlt)
      generalize rs.getD q zChannel = x at hc0 hc1 hc2 hc3 hd0 hd1 hd2 hd3
      obtain ⟨x0, x1, x2, x3⟩ := x
      have hi : (q : Int) < (n : Int) := by omega
      have HC := Lib.hid (fun W => eqChannelA x0 x1 x2 x3 W)
      go_wp2
      go_still_tail 8, (by kernel_rfl)
      change wpList _ _ _ _ _ wr.drew
      clear hc0 hc1 hc2 hc3 hd0 hd1 hd2 hd3
      have hbd := hbw.drew
      generalize wr.drew = wd at hbd ⊢
      go_wp2_with fail
      refine (HC.out _).mono ?_
      rintro e w1 ⟨rfl, hb1⟩
      go_wp2
      go_roundw
      case rel => exact ⟨q + 1, by omega, by go_num, hbd.trans (hb1.mono hbd.size)⟩
      case measure => simp [intOf]; omega
    · go_wp2
      go_ret
      exact ⟨rfl, hbw⟩

def markCChannel (q x : Nat) : Value := if x % 4 = 0 then .int .i64 ((q + x : Nat) : Int) else if x % 4 = 1 then .int .i64 ((q + x : Nat) : Int) else if x % 4 = 2 then .int .i64 ((q + x : Nat) : Int) else .int .i64 ((q + x : Nat) : Int)
theorem own_marksChannel {w : World} {lo hi b m q n : Nat} {f : Nat → Value} (h : w.rowIs b 36 m (fun x => if x < n * 4 then markCChannel q x else f x)) (hm : n * 4 ≤ m) (h1 : lo ≤ b) (h2 : b < hi) : OwnChannel w lo hi (some ⟨b, 0, none⟩) (marksChannel q n) :=
  .inr ⟨b, m, _, rfl, h1, h2, by simpa [marksChannel_len] using hm, h, fun i hi' j hj => by
    have hi'' : i < n := by simpa [marksChannel_len] using hi'
    rw [rowChannel_at _ i (by rw [marksChannel_len]; exact hi''), marksChannel_at q n i hi'']
    show (if i * 4 + j < n * 4 then markCChannel q (i * 4 + j) else _) = _
    rw [if_pos (by omega)]
    have hmod : (i * 4 + j) % 4 = j := by omega
    unfold markCChannel rowChannel
    rw [hmod, show q + (i * 4 + j) = q + i * 4 + j by omega]
    have : j = 0 ∨ j = 1 ∨ j = 2 ∨ j = 3 := by omega
    rcases this with rfl | rfl | rfl | rfl <;> rfl⟩
set_option maxRecDepth 100000 in
set_option maxHeartbeats 4000000 in
theorem markLRChannel (v : Value) (rs : List TChannel) (k lo hi : Nat) (w : World) (h : OwnL w lo hi v (rChannel rs)) (hk : 1 ≤ k) (hn0 : (rChannel rs).len ≤ 4294967296) (hk2 : k ≤ 549755813888) :
    Calls Try.prog 35 #[v, .int .i64 (k : Int)] w (MarkedL lo hi v (rChannel rs) k w) := by
  obtain ⟨A, c, rfl, ho⟩ := h
  have hn : rs.length ≤ 4294967296 := by rw [len_rChannel] at hn0; omega
  clear hn0
  unfold MarkedL
  rw [marks_rChannel, len_rChannel, List.length_map]
  generalize hl : rs.length = n at hn ⊢
  have ho : OwnChannel w lo hi A rs := ho
  rcases Nat.eq_zero_or_pos n with hz | hz
  · subst hz
    clear ho
    go_enter Try.func35, Try.ntmps35
    go_wp2
    go_loop [5, 1] (fun i kk => i = .int .i64 0 ∧ kk = .int .i64 k) (fun _ _ => 0)
    case atStart => exact ⟨rfl, rfl⟩
    case round =>
      obtain ⟨rfl, rfl⟩ := hrel
      go_wp2
      go_ret
      exact ⟨by simp, Lib.hid (own_rChannel.2 ⟨rfl, .inl rfl⟩), touch_none (Btw.refl _ _ _)⟩
  · rcases ho with hnil | ⟨b, m, f, rfl, h1, h2, hm, hr, hf⟩
    · have hx := congrArg List.length hnil
      rw [List.length_map, List.length_nil] at hx
      omega
    have HM : Hid (n * 4 ≤ m) := Lib.hid (by rw [← hl]; simpa using hm)
    have HR := Lib.hid hr
    clear hm hr hf hl
    go_enter Try.func35, Try.ntmps35
    go_wp2
    go_loopw [5, 1] (fun i kk wr => ∃ j : Nat, j ≤ n ∧ i = .int .i64 j ∧ kk = .int .i64 ((k + j * 4 : Nat) : Int) ∧ Btw b (b + 1) w wr ∧ Hid (wr.rowIs b 36 m (fun x => if x < j * 4 then markCChannel k x else f x))) (fun i _ _ => n - (intOf i).toNat)
    case atStart => exact ⟨0, Nat.zero_le _, rfl, rfl, Btw.refl _ _ _, Lib.hid (HR.out.congr (fun i _ => by simp))⟩
    case round =>
      obtain ⟨j, hj, rfl, rfl, hbw, HW⟩ := hrel
      by_cases hlt : j < n
      · have hi' : (j : Int) < (n : Int) := by omega
        have hc0 := HW.out.cell (i := j * 4) (by have := HM.out; omega)
        rw [if_neg (by omega)] at hc0
        have hf0 := HW.out.frozen (j * 4)
        have hc1 := HW.out.cell (i := j * 4 + 1) (by have := HM.out; omega)
        rw [if_neg (by omega)] at hc1
        have hf1 := HW.out.frozen (j * 4 + 1)
        have hc2 := HW.out.cell (i := j * 4 + 2) (by have := HM.out; omega)
        rw [if_neg (by omega)] at hc2
        have hf2 := HW.out.frozen (j * 4 + 2)
        have hc3 := HW.out.cell (i := j * 4 + 3) (by have := HM.out; omega)
        rw [if_neg (by omega)] at hc3
        have hf3 := HW.out.frozen (j * 4 + 3)
        generalize hz : k + j * 4 = z
        have HZ := Lib.hid hz
        have hz1 : z + 4 ≤ 1099511627776 := by omega
        have HS := Lib.hid ((((HW.out.set (j * 4) (.int .i64 (z : Int))).set (j * 4 + 1) (.int .i64 ((z : Int) + 1))).set (j * 4 + 2) (.int .i64 ((z : Int) + 1 + 1))).set (j * 4 + 3) (.int .i64 ((z : Int) + 1 + 1 + 1)))
        clear HW hz
        generalize f (j * 4) = y0 at hc0
        generalize f (j * 4 + 1) = y1 at hc1
        generalize f (j * 4 + 2) = y2 at hc2
        generalize f (j * 4 + 3) = y3 at hc3
        go_wp2
        go_roundw
        case rel =>
          refine ⟨j + 1, by omega, by go_num, by have := HZ.out; congr 1; omega, ((((hbw.setCell (Nat.le_refl _) (Nat.lt_succ_self _) _).setCell (Nat.le_refl _) (Nat.lt_succ_self _) _).setCell (Nat.le_refl _) (Nat.lt_succ_self _) _).setCell (Nat.le_refl _) (Nat.lt_succ_self _) _), Lib.hid (HS.out.congr (fun x _ => ?_))⟩
          show (if x = j * 4 + 3 then Value.int .i64 ((z : Int) + 1 + 1 + 1) else (if x = j * 4 + 2 then Value.int .i64 ((z : Int) + 1 + 1) else (if x = j * 4 + 1 then Value.int .i64 ((z : Int) + 1) else (if x = j * 4 then Value.int .i64 (z : Int) else (if x < j * 4 then markCChannel k x else f x))))) = _
          by_cases e3 : x = j * 4 + 3
          · subst e3
            rw [if_pos rfl, if_pos (by omega)]
            unfold markCChannel
            have hmod : (j * 4 + 3) % 4 = 3 := by omega
            have hzz : ((k + (j * 4 + 3) : Nat) : Int) = (z : Int) + 1 + 1 + 1 := by have := HZ.out; omega
            rw [hzz, hmod]
            rfl
          · rw [if_neg e3]
            by_cases e2 : x = j * 4 + 2
            · subst e2
              rw [if_pos rfl, if_pos (by omega)]
              unfold markCChannel
              have hmod : (j * 4 + 2) % 4 = 2 := by omega
              have hzz : ((k + (j * 4 + 2) : Nat) : Int) = (z : Int) + 1 + 1 := by have := HZ.out; omega
              rw [hzz, hmod]
              rfl
            · rw [if_neg e2]
              by_cases e1 : x = j * 4 + 1
              · subst e1
                rw [if_pos rfl, if_pos (by omega)]
                unfold markCChannel
                have hmod : (j * 4 + 1) % 4 = 1 := by omega
                have hzz : ((k + (j * 4 + 1) : Nat) : Int) = (z : Int) + 1 := by have := HZ.out; omega
                rw [hzz, hmod]
                rfl
              · rw [if_neg e1]
                by_cases e0 : x = j * 4
                · subst e0
                  rw [if_pos rfl, if_pos (by omega)]
                  unfold markCChannel
                  have hmod : (j * 4) % 4 = 0 := by omega
                  have hzz : ((k + (j * 4) : Nat) : Int) = (z : Int) := by have := HZ.out; omega
                  rw [hzz, hmod]
                  rfl
                · rw [if_neg e0]
                  by_cases e4 : x < j * 4
                  · rw [if_pos e4, if_pos (by omega)]
                  · rw [if_neg e4, if_neg (by omega)]
        case measure => simp [intOf]; omega
      · go_wp2
        go_ret
        have ej : j = n := by omega
        subst ej
        exact ⟨rfl, Lib.hid (own_rChannel.2 ⟨marksChannel_len _ _, own_marksChannel HW.out HM.out h1 h2⟩), touch_blk hz hbw⟩

set_option maxRecDepth 100000 in
set_option maxHeartbeats 4000000 in
theorem heldLRChannel (v : Value) (rs : List TChannel) (k : Nat) (w : World) (h : RepL w v ((rChannel rs).marks k)) (hk : 1 ≤ k) (hn0 : (rChannel rs).len ≤ 4294967296) (hk2 : k ≤ 549755813888) :
    Calls Try.prog 36 #[v, .int .i64 (k : Int)] w fun e w' => e = .returned (.int .i64 ((k + (rChannel rs).len : Nat) : Int)) ∧ Below w.heap.size w w' := by
  rw [marks_rChannel] at h
  have hn : rs.length ≤ 4294967296 := by rw [len_rChannel] at hn0; omega
  clear hn0
  obtain ⟨A, c, rfl, hr⟩ := h
  have H : Hid (RowChannel w A (marksChannel k rs.length)) := Lib.hid hr
  rw [len_rChannel, List.length_map, marksChannel_len]
  clear hr
  generalize rs.length = n at hn H ⊢
  go_enter Try.func36, Try.ntmps36
  go_wp2
  go_loop [5, 1] (fun i kk => ∃ j : Nat, j ≤ n ∧ i = .int .i64 j ∧ kk = .int .i64 ((k + j * 4 : Nat) : Int)) (fun i _ => n - (intOf i).toNat)
  case atStart => exact ⟨0, Nat.zero_le _, rfl, rfl⟩
  case round =>
    obtain ⟨j, hj, rfl, rfl⟩ := hrel
    by_cases hlt : j < n
    · obtain ⟨b, off, rfl, hc0, hc1, hc2, hc3⟩ := H.out.at j (by rw [marksChannel_len]; exact hlt)
      rw [marksChannel_at k n j hlt] at hc0 hc1 hc2 hc3
      have hi' : (j : Int) < (n : Int) := by omega
      generalize hz : k + j * 4 = z at hc0 hc1 hc2 hc3
      have HZ := Lib.hid hz
      have hz1 : z + 4 ≤ 1099511627776 := by omega
      clear hz
      have g0 : w.cell? ⟨b, off + j * 4, none⟩ = some (.int .i64 ((z : Int))) := hc0
      have q0 : (((z : Int)) != ((z : Int))) = false := by simp
      have g1 : w.cell? ⟨b, off + j * 4 + 1, none⟩ = some (.int .i64 ((z : Int) + 1)) := hc1.trans (by first | rfl | (congr 2; omega))
      have q1 : (((z : Int) + 1) != ((z : Int) + 1)) = false := by simp
      have g2 : w.cell? ⟨b, off + j * 4 + 2, none⟩ = some (.int .i64 ((z : Int) + 1 + 1)) := hc2.trans (by first | rfl | (congr 2; omega))
      have q2 : (((z : Int) + 1 + 1) != ((z : Int) + 1 + 1)) = false := by simp
      have g3 : w.cell? ⟨b, off + j * 4 + 3, none⟩ = some (.int .i64 ((z : Int) + 1 + 1 + 1)) := hc3.trans (by first | rfl | (congr 2; omega))
      have q3 : (((z : Int) + 1 + 1 + 1) != ((z : Int) + 1 + 1 + 1)) = false := by simp
      clear hc0 hc1 hc2 hc3
      go_wp2
      go_round
      case rel => exact ⟨j + 1, by omega, by go_num, by have := HZ.out; congr 1; omega⟩
      case measure => simp [intOf]; omega
    · go_wp2
      go_ret
      have ej : j = n := by omega
      subst ej
      exact ⟨rfl, Below.refl _ _⟩

end Go.Proofs.Ytngoijchebfolaa

/- A []bool that came in, opened. -/
namespace Go.Proofs.Ytngoijchebfolaa
open Go.RowKit Go.ChangeShapes Go.WideShapes

theorem open_bools {H : Type} {enc : TypeId × Value → H} {P : Program} {w : World} {spare : Nat → Bool} {held : Bool} {t e : TypeId} {fuel : Nat} {v : Value} {x : DataW H × List MemPlace} (ht : P.underlying t = some (.slice e)) (he : P.underlying e = some .bool) (hce : P.cellsOf e = 1)
    (h : DataW.trod enc P w 0 spare held fuel t [v] = some x) :
    ∃ A n c, ∃ gs : List Bool, v = .slice A n c ∧ gs.length = n ∧ n ≤ maxLen ∧ BoolL w A gs := by
  rcases Deep.open_slice1 ht hce h with ⟨hcs, _⟩ | ⟨a, len, cap, m, k, V, D, Pl, hcs, _, hl, hm, hmm, _, hx⟩
  · injection hcs with hv _
    exact ⟨none, 0, 0, [], hv, rfl, by unfold maxLen; omega, fun i hi => by simp at hi⟩
  · injection hcs with hv _
    have hlm : len ≤ m := by rw [hmm]; split <;> omega
    obtain ⟨S, hS⟩ := Deep.choose_lt (n := len) (p := fun i (s : Bool) => w.cell? (a.add i) = some (.bool s)) (fun i hi => by
      obtain ⟨h1, h2⟩ := hx i (by omega)
      obtain ⟨s, hc, _⟩ := DataW.trod_bool he h2
      injection hc with hc _
      exact ⟨s, by rw [h1, hc]⟩)
    refine ⟨some a, len, cap, (List.range len).map S, hv, by simp, by omega, fun i hi => ?_⟩
    have hi' : i < len := by simpa using hi
    have h0 := hS 0 (by omega)
    have hsp := World.cell?_spot h0
    obtain ⟨b, off, spot⟩ := a
    have hsp' : spot = none := by simpa [Addr.add] using hsp
    subst hsp'
    have hc := add_plain (hS i hi') rfl
    exact ⟨b, off, rfl, by rw [getD_range len S _ i hi']; exact hc⟩
set_option maxRecDepth 100000 in
theorem cellsBool : Try.prog.cellsOf 4 = 1 := by kernel_rfl
set_option maxRecDepth 100000 in
theorem cellsOfI : Try.prog.cellsOf 23 = 1 := by kernel_rfl
set_option maxRecDepth 100000 in
theorem cellsOfB : Try.prog.cellsOf 24 = 1 := by kernel_rfl
end Go.Proofs.Ytngoijchebfolaa

/- What came in, opened into leaves. Written by gen_open.py. -/
namespace Go.Proofs.Ytngoijchebfolaa
open Go.RowKit Go.ChangeShapes Go.WideShapes
section
variable {H : Type} {enc : TypeId × Value → H} {W : World} {spare : Nat → Bool} {held : Bool}
theorem at_field {P : Program} {n : Nat} {fs : Array Field} {cs : List Value} {xs : List (DataW H × List MemPlace)} (hf : ∀ (i : Nat) (f : Field), fs[i]? = some f → DataW.trod enc P W 0 spare held n f.type (List.take (P.cellsOf f.type) (List.drop f.offset cs)) = xs[i]?) (hlen : xs.length = fs.size) (i : Nat) (f : Field) (hi : fs[i]? = some f) (k : Nat) (hk : P.cellsOf f.type = k) : ∃ y, DataW.trod enc P W 0 spare held n f.type (List.take k (List.drop f.offset cs)) = some y := by
  have h := hf i f hi
  have hlt : i < fs.size := (Array.getElem?_eq_some_iff.1 hi).1
  rw [hk, List.getElem?_eq_getElem (by omega)] at h
  exact ⟨_, h⟩
set_option maxRecDepth 100000 in
theorem openI {fuel : Nat} {v : Value} {x : DataW H × List MemPlace} (h : DataW.trod enc Try.prog W 0 spare held fuel 23 [v] = some x) : ∃ A c zs, v = .slice A zs.length c ∧ RepL W v (.I zs) ∧ (Lf.I zs).fit := by
  obtain ⟨A, n, c, zs, rfl, hl, hn, hs, _⟩ := open_ints64 Try.underlying23 Try.underlying3 cellsInt h
  subst hl
  exact ⟨A, c, zs, rfl, ⟨A, c, rfl, hs⟩, hn⟩
set_option maxRecDepth 100000 in
theorem openB {fuel : Nat} {v : Value} {x : DataW H × List MemPlace} (h : DataW.trod enc Try.prog W 0 spare held fuel 24 [v] = some x) : ∃ A c zs, v = .slice A zs.length c ∧ RepL W v (.B zs) ∧ (Lf.B zs).fit := by
  obtain ⟨A, n, c, zs, rfl, hl, hn, hs⟩ := open_bools Try.underlying24 Try.underlying4 cellsBool h
  subst hl
  exact ⟨A, c, zs, rfl, ⟨A, c, rfl, hs⟩, hn⟩
end
theorem list3 {l : List Value} (h : l.length = 3) : ∃ c0 c1 c2 : Value, l = [c0, c1, c2] := by
  match l, h with
  | [c0, c1, c2], _ => exact ⟨c0, c1, c2, rfl⟩
set_option maxRecDepth 100000 in
theorem cellsLFlash : Try.prog.cellsOf 45 = 3 := by kernel_rfl
set_option maxRecDepth 100000 in
theorem opencFlash {H : Type} {enc : TypeId × Value → H} {W : World} {spare : Nat → Bool} {held : Bool} {fuel : Nat} {cs : List Value} {x : DataW H × List MemPlace} (h : DataW.trod enc Try.prog W 0 spare held fuel 45 cs = some x) :
    ∃ (vA0 : Option Addr) (vA1 : Option Addr) (vc0 : Nat) (vc1 : Nat) (d0 : List Int) (d1 : List Bool) (d2 : Int), cs = [.slice vA0 d0.length vc0, .slice vA1 d1.length vc1, .int .i64 d2] ∧ RepA W [.slice vA0 d0.length vc0, .slice vA1 d1.length vc1] [Lf.I d0, Lf.B d1] ∧ FitA [Lf.I d0, Lf.B d1] := by
  obtain ⟨xs, n, _, rfl, hl, hlen, hf⟩ := DataW.trod_struct Try.underlying45 h
  obtain ⟨c0, c1, c2, rfl⟩ := list3 (hl.trans cellsLFlash)
  obtain ⟨y0, h0⟩ : ∃ y, DataW.trod enc Try.prog W 0 spare held n 23 [c0] = some y := at_field hf hlen 0 _ rfl 1 cellsOfI
  obtain ⟨vA0, vc0, d0, e0, R0, G0⟩ := openI h0
  subst e0
  obtain ⟨y1, h1⟩ : ∃ y, DataW.trod enc Try.prog W 0 spare held n 24 [c1] = some y := at_field hf hlen 1 _ rfl 1 cellsOfB
  obtain ⟨vA1, vc1, d1, e1, R1, G1⟩ := openB h1
  subst e1
  obtain ⟨y2, h2⟩ : ∃ y, DataW.trod enc Try.prog W 0 spare held n 3 [c2] = some y := at_field hf hlen 2 _ rfl 1 cellsInt
  obtain ⟨d2, e2, _, _⟩ := DataW.trod_int Try.underlying3 h2
  injection e2 with e2 _
  subst e2
  refine ⟨vA0, vA1, vc0, vc1, d0, d1, d2, rfl, ⟨R0, R1, trivial⟩, ?_⟩
  intro d hd
  simp only [List.mem_cons, List.not_mem_nil, or_false] at hd
  rcases hd with rfl | rfl
  · exact G0
  · exact G1
set_option maxRecDepth 100000 in
theorem openFlash {H : Type} {enc : TypeId × Value → H} {W : World} {r : Reach} {b0 : Nat} {v : Value} {d : DataW H} {p : List MemPlace} (hv : Value.okWide Try.prog W r b0 45 v) (h : DataW.Trod enc Try.prog W 0 (fun _ => true) true 45 v d p) :
    ∃ (vA0 : Option Addr) (vA1 : Option Addr) (vc0 : Nat) (vc1 : Nat) (d0 : List Int) (d1 : List Bool) (d2 : Int), v = .agg #[.slice vA0 d0.length vc0, .slice vA1 d1.length vc1, .int .i64 d2] ∧ RepA W [.slice vA0 d0.length vc0, .slice vA1 d1.length vc1] [Lf.I d0, Lf.B d1] ∧ FitA [Lf.I d0, Lf.B d1] := by
  obtain ⟨cs, rfl, _⟩ := okWide_struct Try.underlying45 hv
  obtain ⟨fuel, hf⟩ := h
  obtain ⟨vA0, vA1, vc0, vc1, d0, d1, d2, e, R, G⟩ := opencFlash hf
  refine ⟨vA0, vA1, vc0, vc1, d0, d1, d2, ?_, R, G⟩
  congr 1
  apply Array.ext'
  simpa [Value.cells] using e
theorem list5 {l : List Value} (h : l.length = 5) : ∃ c0 c1 c2 c3 c4 : Value, l = [c0, c1, c2, c3, c4] := by
  match l, h with
  | [c0, c1, c2, c3, c4], _ => exact ⟨c0, c1, c2, c3, c4, rfl⟩
set_option maxRecDepth 100000 in
theorem cellsLMem : Try.prog.cellsOf 47 = 5 := by kernel_rfl
set_option maxRecDepth 100000 in
theorem opencMem {H : Type} {enc : TypeId × Value → H} {W : World} {spare : Nat → Bool} {held : Bool} {fuel : Nat} {cs : List Value} {x : DataW H × List MemPlace} (h : DataW.trod enc Try.prog W 0 spare held fuel 47 cs = some x) :
    ∃ (vA0 : Option Addr) (vA1 : Option Addr) (vA2 : Option Addr) (vA3 : Option Addr) (vc0 : Nat) (vc1 : Nat) (vc2 : Nat) (vc3 : Nat) (d0 : List Int) (d1 : List Int) (d2 : List Int) (d3 : List Bool) (d4 : Int), cs = [.slice vA0 d0.length vc0, .slice vA1 d1.length vc1, .slice vA2 d2.length vc2, .slice vA3 d3.length vc3, .int .i64 d4] ∧ RepA W [.slice vA0 d0.length vc0, .slice vA1 d1.length vc1, .slice vA2 d2.length vc2, .slice vA3 d3.length vc3] [Lf.I d0, Lf.I d1, Lf.I d2, Lf.B d3] ∧ FitA [Lf.I d0, Lf.I d1, Lf.I d2, Lf.B d3] := by
  obtain ⟨xs, n, _, rfl, hl, hlen, hf⟩ := DataW.trod_struct Try.underlying47 h
  obtain ⟨c0, c1, c2, c3, c4, rfl⟩ := list5 (hl.trans cellsLMem)
  obtain ⟨y0, h0⟩ : ∃ y, DataW.trod enc Try.prog W 0 spare held n 23 [c0] = some y := at_field hf hlen 0 _ rfl 1 cellsOfI
  obtain ⟨vA0, vc0, d0, e0, R0, G0⟩ := openI h0
  subst e0
  obtain ⟨y1, h1⟩ : ∃ y, DataW.trod enc Try.prog W 0 spare held n 23 [c1] = some y := at_field hf hlen 1 _ rfl 1 cellsOfI
  obtain ⟨vA1, vc1, d1, e1, R1, G1⟩ := openI h1
  subst e1
  obtain ⟨y2, h2⟩ : ∃ y, DataW.trod enc Try.prog W 0 spare held n 45 [c2, c3, c4] = some y := at_field hf hlen 2 _ rfl 3 cellsLFlash
  obtain ⟨vA2, vA3, vc2, vc3, d2, d3, d4, e2, R2, G2⟩ := opencFlash h2
  simp only [List.cons.injEq, and_true] at e2
  obtain ⟨rfl, rfl, rfl⟩ := e2
  refine ⟨vA0, vA1, vA2, vA3, vc0, vc1, vc2, vc3, d0, d1, d2, d3, d4, rfl, ⟨R0, R1, R2.1, R2.2.1, trivial⟩, ?_⟩
  intro d hd
  simp only [List.mem_cons, List.not_mem_nil, or_false] at hd
  rcases hd with rfl | rfl | rfl | rfl
  · exact G0
  · exact G1
  · exact G2 _ (by simp)
  · exact G2 _ (by simp)
set_option maxRecDepth 100000 in
theorem openMem {H : Type} {enc : TypeId × Value → H} {W : World} {r : Reach} {b0 : Nat} {v : Value} {d : DataW H} {p : List MemPlace} (hv : Value.okWide Try.prog W r b0 47 v) (h : DataW.Trod enc Try.prog W 0 (fun _ => true) true 47 v d p) :
    ∃ (vA0 : Option Addr) (vA1 : Option Addr) (vA2 : Option Addr) (vA3 : Option Addr) (vc0 : Nat) (vc1 : Nat) (vc2 : Nat) (vc3 : Nat) (d0 : List Int) (d1 : List Int) (d2 : List Int) (d3 : List Bool) (d4 : Int), v = .agg #[.slice vA0 d0.length vc0, .slice vA1 d1.length vc1, .slice vA2 d2.length vc2, .slice vA3 d3.length vc3, .int .i64 d4] ∧ RepA W [.slice vA0 d0.length vc0, .slice vA1 d1.length vc1, .slice vA2 d2.length vc2, .slice vA3 d3.length vc3] [Lf.I d0, Lf.I d1, Lf.I d2, Lf.B d3] ∧ FitA [Lf.I d0, Lf.I d1, Lf.I d2, Lf.B d3] := by
  obtain ⟨cs, rfl, _⟩ := okWide_struct Try.underlying47 hv
  obtain ⟨fuel, hf⟩ := h
  obtain ⟨vA0, vA1, vA2, vA3, vc0, vc1, vc2, vc3, d0, d1, d2, d3, d4, e, R, G⟩ := opencMem hf
  refine ⟨vA0, vA1, vA2, vA3, vc0, vc1, vc2, vc3, d0, d1, d2, d3, d4, ?_, R, G⟩
  congr 1
  apply Array.ext'
  simpa [Value.cells] using e
theorem list2 {l : List Value} (h : l.length = 2) : ∃ c0 c1 : Value, l = [c0, c1] := by
  match l, h with
  | [c0, c1], _ => exact ⟨c0, c1, rfl⟩
theorem list9 {l : List Value} (h : l.length = 9) : ∃ c0 c1 c2 c3 c4 c5 c6 c7 c8 : Value, l = [c0, c1, c2, c3, c4, c5, c6, c7, c8] := by
  match l, h with
  | [c0, c1, c2, c3, c4, c5, c6, c7, c8], _ => exact ⟨c0, c1, c2, c3, c4, c5, c6, c7, c8, rfl⟩
set_option maxRecDepth 100000 in
theorem cellsLCpu : Try.prog.cellsOf 44 = 9 := by kernel_rfl
set_option maxRecDepth 100000 in
theorem opencCpu {H : Type} {enc : TypeId × Value → H} {W : World} {spare : Nat → Bool} {held : Bool} {fuel : Nat} {cs : List Value} {x : DataW H × List MemPlace} (h : DataW.trod enc Try.prog W 0 spare held fuel 44 cs = some x) :
    ∃ (vA8 : Option Addr) (vc8 : Nat) (d0 : Int) (d1 : Int) (d2 : Int) (d3 : Int) (d4 : Bool) (d5 : Bool) (d6 : Bool) (d7 : Bool) (d8 : List Int), cs = [.int .i64 d0, .int .i64 d1, .int .i64 d2, .int .i64 d3, .bool d4, .bool d5, .bool d6, .bool d7, .slice vA8 d8.length vc8] ∧ RepA W [.slice vA8 d8.length vc8] [Lf.I d8] ∧ FitA [Lf.I d8] := by
  obtain ⟨xs, n, _, rfl, hl, hlen, hf⟩ := DataW.trod_struct Try.underlying44 h
  obtain ⟨c0, c1, c2, c3, c4, c5, c6, c7, c8, rfl⟩ := list9 (hl.trans cellsLCpu)
  obtain ⟨y0, h0⟩ : ∃ y, DataW.trod enc Try.prog W 0 spare held n 3 [c0] = some y := at_field hf hlen 0 _ rfl 1 cellsInt
  obtain ⟨d0, e0, _, _⟩ := DataW.trod_int Try.underlying3 h0
  injection e0 with e0 _
  subst e0
  obtain ⟨y1, h1⟩ : ∃ y, DataW.trod enc Try.prog W 0 spare held n 3 [c1] = some y := at_field hf hlen 1 _ rfl 1 cellsInt
  obtain ⟨d1, e1, _, _⟩ := DataW.trod_int Try.underlying3 h1
  injection e1 with e1 _
  subst e1
  obtain ⟨y2, h2⟩ : ∃ y, DataW.trod enc Try.prog W 0 spare held n 3 [c2] = some y := at_field hf hlen 2 _ rfl 1 cellsInt
  obtain ⟨d2, e2, _, _⟩ := DataW.trod_int Try.underlying3 h2
  injection e2 with e2 _
  subst e2
  obtain ⟨y3, h3⟩ : ∃ y, DataW.trod enc Try.prog W 0 spare held n 3 [c3] = some y := at_field hf hlen 3 _ rfl 1 cellsInt
  obtain ⟨d3, e3, _, _⟩ := DataW.trod_int Try.underlying3 h3
  injection e3 with e3 _
  subst e3
  obtain ⟨y4, h4⟩ : ∃ y, DataW.trod enc Try.prog W 0 spare held n 4 [c4] = some y := at_field hf hlen 4 _ rfl 1 cellsBool
  obtain ⟨d4, e4, _⟩ := DataW.trod_bool Try.underlying4 h4
  injection e4 with e4 _
  subst e4
  obtain ⟨y5, h5⟩ : ∃ y, DataW.trod enc Try.prog W 0 spare held n 4 [c5] = some y := at_field hf hlen 5 _ rfl 1 cellsBool
  obtain ⟨d5, e5, _⟩ := DataW.trod_bool Try.underlying4 h5
  injection e5 with e5 _
  subst e5
  obtain ⟨y6, h6⟩ : ∃ y, DataW.trod enc Try.prog W 0 spare held n 4 [c6] = some y := at_field hf hlen 6 _ rfl 1 cellsBool
  obtain ⟨d6, e6, _⟩ := DataW.trod_bool Try.underlying4 h6
  injection e6 with e6 _
  subst e6
  obtain ⟨y7, h7⟩ : ∃ y, DataW.trod enc Try.prog W 0 spare held n 4 [c7] = some y := at_field hf hlen 7 _ rfl 1 cellsBool
  obtain ⟨d7, e7, _⟩ := DataW.trod_bool Try.underlying4 h7
  injection e7 with e7 _
  subst e7
  obtain ⟨y8, h8⟩ : ∃ y, DataW.trod enc Try.prog W 0 spare held n 23 [c8] = some y := at_field hf hlen 8 _ rfl 1 cellsOfI
  obtain ⟨vA8, vc8, d8, e8, R8, G8⟩ := openI h8
  subst e8
  refine ⟨vA8, vc8, d0, d1, d2, d3, d4, d5, d6, d7, d8, rfl, ⟨R8, trivial⟩, ?_⟩
  intro d hd
  simp only [List.mem_cons, List.not_mem_nil, or_false] at hd
  rcases hd with rfl
  · exact G8
set_option maxRecDepth 100000 in
theorem openCpu {H : Type} {enc : TypeId × Value → H} {W : World} {r : Reach} {b0 : Nat} {v : Value} {d : DataW H} {p : List MemPlace} (hv : Value.okWide Try.prog W r b0 44 v) (h : DataW.Trod enc Try.prog W 0 (fun _ => true) true 44 v d p) :
    ∃ (vA8 : Option Addr) (vc8 : Nat) (d0 : Int) (d1 : Int) (d2 : Int) (d3 : Int) (d4 : Bool) (d5 : Bool) (d6 : Bool) (d7 : Bool) (d8 : List Int), v = .agg #[.int .i64 d0, .int .i64 d1, .int .i64 d2, .int .i64 d3, .bool d4, .bool d5, .bool d6, .bool d7, .slice vA8 d8.length vc8] ∧ RepA W [.slice vA8 d8.length vc8] [Lf.I d8] ∧ FitA [Lf.I d8] := by
  obtain ⟨cs, rfl, _⟩ := okWide_struct Try.underlying44 hv
  obtain ⟨fuel, hf⟩ := h
  obtain ⟨vA8, vc8, d0, d1, d2, d3, d4, d5, d6, d7, d8, e, R, G⟩ := opencCpu hf
  refine ⟨vA8, vc8, d0, d1, d2, d3, d4, d5, d6, d7, d8, ?_, R, G⟩
  congr 1
  apply Array.ext'
  simpa [Value.cells] using e
theorem list4 {l : List Value} (h : l.length = 4) : ∃ c0 c1 c2 c3 : Value, l = [c0, c1, c2, c3] := by
  match l, h with
  | [c0, c1, c2, c3], _ => exact ⟨c0, c1, c2, c3, rfl⟩
set_option maxRecDepth 100000 in
theorem cellsLChannel : Try.prog.cellsOf 66 = 4 := by kernel_rfl
set_option maxRecDepth 100000 in
theorem opencChannel {H : Type} {enc : TypeId × Value → H} {W : World} {spare : Nat → Bool} {held : Bool} {fuel : Nat} {cs : List Value} {x : DataW H × List MemPlace} (h : DataW.trod enc Try.prog W 0 spare held fuel 66 cs = some x) :
    ∃ (d0 : Int) (d1 : Int) (d2 : Int) (d3 : Int), cs = [.int .i64 d0, .int .i64 d1, .int .i64 d2, .int .i64 d3] ∧ RepA W [] [] ∧ FitA [] := by
  obtain ⟨xs, n, _, rfl, hl, hlen, hf⟩ := DataW.trod_struct Try.underlying66 h
  obtain ⟨c0, c1, c2, c3, rfl⟩ := list4 (hl.trans cellsLChannel)
  obtain ⟨y0, h0⟩ : ∃ y, DataW.trod enc Try.prog W 0 spare held n 3 [c0] = some y := at_field hf hlen 0 _ rfl 1 cellsInt
  obtain ⟨d0, e0, _, _⟩ := DataW.trod_int Try.underlying3 h0
  injection e0 with e0 _
  subst e0
  obtain ⟨y1, h1⟩ : ∃ y, DataW.trod enc Try.prog W 0 spare held n 3 [c1] = some y := at_field hf hlen 1 _ rfl 1 cellsInt
  obtain ⟨d1, e1, _, _⟩ := DataW.trod_int Try.underlying3 h1
  injection e1 with e1 _
  subst e1
  obtain ⟨y2, h2⟩ : ∃ y, DataW.trod enc Try.prog W 0 spare held n 3 [c2] = some y := at_field hf hlen 2 _ rfl 1 cellsInt
  obtain ⟨d2, e2, _, _⟩ := DataW.trod_int Try.underlying3 h2
  injection e2 with e2 _
  subst e2
  obtain ⟨y3, h3⟩ : ∃ y, DataW.trod enc Try.prog W 0 spare held n 3 [c3] = some y := at_field hf hlen 3 _ rfl 1 cellsInt
  obtain ⟨d3, e3, _, _⟩ := DataW.trod_int Try.underlying3 h3
  injection e3 with e3 _
  subst e3
  refine ⟨d0, d1, d2, d3, rfl, trivial, ?_⟩
  intro d hd
  cases hd
set_option maxRecDepth 100000 in
theorem openChannel {H : Type} {enc : TypeId × Value → H} {W : World} {r : Reach} {b0 : Nat} {v : Value} {d : DataW H} {p : List MemPlace} (hv : Value.okWide Try.prog W r b0 66 v) (h : DataW.Trod enc Try.prog W 0 (fun _ => true) true 66 v d p) :
    ∃ (d0 : Int) (d1 : Int) (d2 : Int) (d3 : Int), v = .agg #[.int .i64 d0, .int .i64 d1, .int .i64 d2, .int .i64 d3] ∧ RepA W [] [] ∧ FitA [] := by
  obtain ⟨cs, rfl, _⟩ := okWide_struct Try.underlying66 hv
  obtain ⟨fuel, hf⟩ := h
  obtain ⟨d0, d1, d2, d3, e, R, G⟩ := opencChannel hf
  refine ⟨d0, d1, d2, d3, ?_, R, G⟩
  congr 1
  apply Array.ext'
  simpa [Value.cells] using e
set_option maxRecDepth 100000 in
theorem openRChannel {H : Type} {enc : TypeId × Value → H} {W : World} {spare : Nat → Bool} {held : Bool} {fuel : Nat} {v : Value} {x : DataW H × List MemPlace} (h : DataW.trod enc Try.prog W 0 spare held fuel 59 [v] = some x) :
    ∃ A c rs, v = .slice A rs.length c ∧ RepL W v (rChannel rs) ∧ (rChannel rs).fit := by
  rcases Deep.open_slice Try.underlying59 h with ⟨hcs, _⟩ | ⟨a, len, cap, m, k, D, Pl, hcs, _, hl, hm, hmm, _, hx⟩
  · injection hcs with hv _
    exact ⟨none, 0, [], hv, by rw [hv]; exact rep_rChannel.2 ⟨rfl, fun i hi => by simp at hi⟩, by simp [rChannel, Lf.fit]⟩
  · injection hcs with hv _
    have hlm : len ≤ m := by rw [hmm]; split <;> omega
    rw [cellsLChannel] at hx
    obtain ⟨S, hS⟩ := Deep.choose_lt (n := len) (p := fun i (s : TChannel) => ∀ j, j < 4 → W.cell? ((a.add (i * 4)).add j) = some ((rowChannel s).getD j undef)) (fun i hi => by
      obtain ⟨cs, g1, g2⟩ := hx i (by omega)
      obtain ⟨_, hlen, hcell⟩ := World.cells?_some g1
      obtain ⟨d0, d1, d2, d3, e, _, _⟩ := opencChannel g2
      subst e
      refine ⟨(d0, d1, d2, d3), fun j hj => ?_⟩
      have hc := hcell j hj
      have hj' : j = 0 ∨ j = 1 ∨ j = 2 ∨ j = 3 := by omega
      rcases hj' with rfl | rfl | rfl | rfl <;> simpa [rowChannel] using hc)
    have hrow : RowL W (some a) 4 (((List.range len).map S).map rowChannel) := fun i hi j hj => by
      have hi' : i < len := by simpa using hi
      have h0 := hS 0 (by omega) 0 (by decide)
      have hsp := World.cell?_spot h0
      obtain ⟨b, off, spot⟩ := a
      have hsp' : spot = none := by simpa [Addr.add] using hsp
      subst hsp'
      refine ⟨b, off, rfl, ?_⟩
      rw [rowChannel_at _ i (by simpa using hi'), getD_range len S _ i hi']
      have h1 := hS i hi' j hj
      rw [Deep.add_add] at h1
      have h2 := add_plain (b := b) (off := off) h1 rfl
      rwa [← Nat.add_assoc] at h2
    exact ⟨some a, cap, (List.range len).map S, by rw [hv]; simp, by rw [hv]; exact rep_rChannel.2 ⟨by simp, hrow⟩, by simp [rChannel, Lf.fit]; omega⟩
end Go.Proofs.Ytngoijchebfolaa
