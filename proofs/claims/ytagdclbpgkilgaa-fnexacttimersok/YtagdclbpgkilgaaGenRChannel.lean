/- Slices of Channel: rows of 4 cells, as lists; the laws' own functions over them. Written by gen_r.py. -/
import Derived.Test.YtagdclbpgkilgaaGenC
import Derived.Test.YtagdclbpgkilgaaGenK
import Derived.Test.YtagdclbpgkilgaaGenChannel
import Derived.Test.YtagdclbpgkilgaaOpen
namespace Go.Proofs.Ytagdclbpgkilgaa
open Go.RowKit Go.ChangeShapes Go.WideShapes

abbrev TChannel := Int × Int × Int × Int
def zChannel : TChannel := (0, 0, 0, 0)
def rowChannel (x : TChannel) : List Value := [.int .i64 (x.1), .int .i64 (x.2.1), .int .i64 (x.2.2.1), .int .i64 (x.2.2.2)]
def rChannel (rs : List TChannel) : Lf := .R 36 4 (by decide) (rs.map rowChannel)
theorem len_rChannel (rs : List TChannel) : (rChannel rs).len = rs.length * 4 := by simp [rChannel, Lf.len]
theorem sz_rChannel (rs : List TChannel) : (rChannel rs).sz = rs.length := by simp [rChannel, Lf.sz]
theorem fit_rChannel {rs : List TChannel} (h : (rChannel rs).fit) : rs.length ≤ maxLen := by simpa [rChannel, Lf.fit] using h
theorem rowChannel_at (rs : List TChannel) (i : Nat) (h : i < rs.length) : (rs.map rowChannel).getD i [] = rowChannel (rs.getD i zChannel) := by
  simp [List.getD_eq_getElem?_getD, h]
/-- What the slice at A holds. -/
def RowChannel (w : World) (A : Option Addr) (rs : List TChannel) : Prop := RowL w A 4 (rs.map rowChannel)
def OwnChannel (w : World) (lo hi : Nat) (A : Option Addr) (rs : List TChannel) : Prop := OwnR w lo hi 36 A 4 (rs.map rowChannel)
theorem RowChannel.below {w w' : World} {A : Option Addr} {rs : List TChannel} (h : RowChannel w A rs) (hb : Below w.heap.size w w') : RowChannel w' A rs := RowL.below h hb
theorem OwnChannel.reads {w : World} {lo hi : Nat} {A : Option Addr} {rs : List TChannel} (h : OwnChannel w lo hi A rs) : RowChannel w A rs := OwnR.reads h
theorem OwnChannel.below {w w' : World} {lo hi : Nat} {A : Option Addr} {rs : List TChannel} (h : OwnChannel w lo hi A rs) (hb : Below w.heap.size w w') : OwnChannel w' lo hi A rs := OwnR.below h hb
theorem rep_rChannel {w : World} {A : Option Addr} {n c : Nat} {rs : List TChannel} : RepL w (.slice A n c) (rChannel rs) ↔ rs.length = n ∧ RowChannel w A rs := by
  constructor
  · rintro ⟨A', c', e, h⟩
    injection e with e1 e2 e3
    subst e1
    exact ⟨by rw [e2, List.length_map], h⟩
  · rintro ⟨rfl, h⟩
    exact ⟨A, c, by rw [List.length_map], h⟩
theorem own_rChannel {w : World} {lo hi : Nat} {A : Option Addr} {n c : Nat} {rs : List TChannel} : OwnL w lo hi (.slice A n c) (rChannel rs) ↔ rs.length = n ∧ OwnChannel w lo hi A rs := by
  constructor
  · rintro ⟨A', c', e, h⟩
    injection e with e1 e2 e3
    subst e1
    exact ⟨by rw [e2, List.length_map], h⟩
  · rintro ⟨rfl, h⟩
    exact ⟨A, c, by rw [List.length_map], h⟩
theorem RowChannel.at {w : World} {A : Option Addr} {rs : List TChannel} (h : RowChannel w A rs) (i : Nat) (hi : i < rs.length) : ∃ b off, A = some ⟨b, off, none⟩ ∧ w.cell? ⟨b, off + i * 4, none⟩ = some (.int .i64 (rs.getD i zChannel).1) ∧ w.cell? ⟨b, off + i * 4 + 1, none⟩ = some (.int .i64 (rs.getD i zChannel).2.1) ∧ w.cell? ⟨b, off + i * 4 + 2, none⟩ = some (.int .i64 (rs.getD i zChannel).2.2.1) ∧ w.cell? ⟨b, off + i * 4 + 3, none⟩ = some (.int .i64 (rs.getD i zChannel).2.2.2) := by
  have hr := rowChannel_at rs i hi
  obtain ⟨b0, o0, e0, h0⟩ := h i (by simpa using hi) 0 (by decide)
  rw [hr] at h0
  obtain ⟨b1, o1, e1, h1⟩ := h i (by simpa using hi) 1 (by decide)
  rw [hr] at h1
  obtain ⟨b2, o2, e2, h2⟩ := h i (by simpa using hi) 2 (by decide)
  rw [hr] at h2
  obtain ⟨b3, o3, e3, h3⟩ := h i (by simpa using hi) 3 (by decide)
  rw [hr] at h3
  subst e0
  injection e1 with e1
  injection e1 with p1 q1 _
  subst p1 q1
  injection e2 with e2
  injection e2 with p2 q2 _
  subst p2 q2
  injection e3 with e3
  injection e3 with p3 q3 _
  subst p3 q3
  exact ⟨b0, o0, rfl, h0, h1, h2, h3⟩
def marksChannel (q n : Nat) : List TChannel := (List.range n).map fun i => (((q + i * 4 + 0 : Nat) : Int), ((q + i * 4 + 1 : Nat) : Int), ((q + i * 4 + 2 : Nat) : Int), ((q + i * 4 + 3 : Nat) : Int))
theorem marksChannel_len (q n : Nat) : (marksChannel q n).length = n := by simp [marksChannel]
theorem marksChannel_at (q n i : Nat) (h : i < n) : (marksChannel q n).getD i zChannel = (((q + i * 4 + 0 : Nat) : Int), ((q + i * 4 + 1 : Nat) : Int), ((q + i * 4 + 2 : Nat) : Int), ((q + i * 4 + 3 : Nat) : Int)) := by simp [marksChannel, List.getD_eq_getElem?_getD, h]
theorem marks_rChannel (q : Nat) (rs : List TChannel) : (rChannel rs).marks q = rChannel (marksChannel q rs.length) := by
  unfold rChannel
  simp only [Lf.marks]
  congr 1
  unfold markRows marksChannel
  rw [List.length_map, List.map_map]
  refine List.map_congr_left fun i hi => ?_
  have hi' : i < rs.length := by simpa using hi
  rw [rowChannel_at rs i hi']
  obtain ⟨x0, x1, x2, x3⟩ := rs.getD i zChannel
  rfl
set_option maxRecDepth 100000 in
theorem infoChannel : (Try.prog.info? 36).map (fun i => (i.zero, i.size, i.bytes)) = some (some (.agg #[.int .i64 0, .int .i64 0, .int .i64 0, .int .i64 0]), 4, 32) := by kernel_rfl
set_option maxRecDepth 100000 in
theorem makeChannel (n : Nat) (hn : n ≤ 1048576) (W : World) : (Instr.makeSlice 31 (.int .i64 (n : Int)) (.int .i64 (n : Int))).run Try.prog W = .ok (.slice (some ⟨W.heap.size, 0, none⟩) n n) (W.alloc (.cells (madeCells #[.int .i64 0, .int .i64 0, .int .i64 0, .int .i64 0] (n * 4)) 36)) := by
  obtain ⟨i, hi, hzz⟩ := Option.map_eq_some_iff.1 infoChannel
  simp only [Prod.mk.injEq] at hzz
  obtain ⟨hz, hs, hb⟩ := hzz
  have hr := run_make (P := Try.prog) W 31 36 i _ Try.underlying31 hi hz .i64 .i64 n n (by omega) (Int.le_refl _) (by rw [hb]; omega) (by omega)
  simp only [Int.toNat_natCast, hs] at hr
  exact hr
def cellChannel (rs : List TChannel) (x : Nat) : Value := (rowChannel (rs.getD (x / 4) zChannel)).getD (x % 4) undef
def fillChannel (rs : List TChannel) (q x : Nat) : Value := if x < q * 4 then cellChannel rs x else (rowChannel zChannel).getD (x % 4) undef
theorem madeChannel (w : World) (n : Nat) : (w.alloc (.cells (madeCells #[.int .i64 0, .int .i64 0, .int .i64 0, .int .i64 0] (n * 4)) 36)).rowIs w.heap.size 36 (n * 4) (fillChannel [] 0) :=
  ⟨_, heap_alloc_new _ _, size_madeCells _ _, fun i hi => by
    have : i % 4 = 0 ∨ i % 4 = 1 ∨ i % 4 = 2 ∨ i % 4 = 3 := by omega
    rcases this with h | h | h | h <;> simp [fillChannel, rowChannel, zChannel, madeCells, hi, h]⟩
theorem fillChannel_next (rs : List TChannel) (q x : Nat) (x0 : Int) (x1 : Int) (x2 : Int) (x3 : Int) (h : rs.getD q zChannel = (x0, x1, x2, x3)) :
    (if x = q * 4 + 3 then Value.int .i64 x3 else (if x = q * 4 + 2 then Value.int .i64 x2 else (if x = q * 4 + 1 then Value.int .i64 x1 else (if x = q * 4 then Value.int .i64 x0 else fillChannel rs q x)))) = fillChannel rs (q + 1) x := by
  unfold fillChannel
  by_cases e3 : x = q * 4 + 3
  · subst e3
    rw [if_pos rfl, if_pos (by omega)]
    unfold cellChannel
    rw [show (q * 4 + 3) / 4 = q by omega, show (q * 4 + 3) % 4 = 3 by omega, h]
    rfl
  · rw [if_neg e3]
    by_cases e2 : x = q * 4 + 2
    · subst e2
      rw [if_pos rfl, if_pos (by omega)]
      unfold cellChannel
      rw [show (q * 4 + 2) / 4 = q by omega, show (q * 4 + 2) % 4 = 2 by omega, h]
      rfl
    · rw [if_neg e2]
      by_cases e1 : x = q * 4 + 1
      · subst e1
        rw [if_pos rfl, if_pos (by omega)]
        unfold cellChannel
        rw [show (q * 4 + 1) / 4 = q by omega, show (q * 4 + 1) % 4 = 1 by omega, h]
        rfl
      · rw [if_neg e1]
        by_cases e0 : x = q * 4
        · subst e0
          rw [if_pos rfl, if_pos (by omega)]
          unfold cellChannel
          rw [show (q * 4) / 4 = q by omega, show (q * 4) % 4 = 0 by omega, h]
          rfl
        · rw [if_neg e0]
          by_cases e4 : x < q * 4
          · rw [if_pos e4, if_pos (by omega)]
          · rw [if_neg e4, if_neg (by omega)]
theorem own_fillChannel {w : World} {lo hi b : Nat} {rs : List TChannel} (h : w.rowIs b 36 (rs.length * 4) (fillChannel rs rs.length)) (h1 : lo ≤ b) (h2 : b < hi) : OwnChannel w lo hi (some ⟨b, 0, none⟩) rs :=
  .inr ⟨b, rs.length * 4, _, rfl, h1, h2, by simp, h, fun i hi' j hj => by
    have hi'' : i < rs.length := by simpa using hi'
    rw [rowChannel_at rs i hi'']
    unfold fillChannel cellChannel
    rw [if_pos (by omega), show (i * 4 + j) / 4 = i by omega, show (i * 4 + j) % 4 = j by omega]⟩
def markCChannel (q x : Nat) : Value := if x % 4 = 0 then .int .i64 ((q + x : Nat) : Int) else if x % 4 = 1 then .int .i64 ((q + x : Nat) : Int) else if x % 4 = 2 then .int .i64 ((q + x : Nat) : Int) else .int .i64 ((q + x : Nat) : Int)
theorem own_marksChannel {w : World} {lo hi b m q n : Nat} {f : Nat → Value} (h : w.rowIs b 36 m (fun x => if x < n * 4 then markCChannel q x else f x)) (hm : n * 4 ≤ m) (h1 : lo ≤ b) (h2 : b < hi) : OwnChannel w lo hi (some ⟨b, 0, none⟩) (marksChannel q n) :=
  .inr ⟨b, m, _, rfl, h1, h2, by simpa [marksChannel_len] using hm, h, fun i hi' j hj => by
    have hi'' : i < n := by simpa [marksChannel_len] using hi'
    rw [rowChannel_at _ i (by rw [marksChannel_len]; exact hi''), marksChannel_at q n i hi'']
    show (if i * 4 + j < n * 4 then markCChannel q (i * 4 + j) else _) = _
    rw [if_pos (by omega)]
    have hmod : (i * 4 + j) % 4 = j := by omega
    unfold markCChannel rowChannel
    rw [hmod, show q + (i * 4 + j) = q + i * 4 + j by omega]
    have : j = 0 ∨ j = 1 ∨ j = 2 ∨ j = 3 := by omega
    rcases this with rfl | rfl | rfl | rfl <;> rfl⟩
end Go.Proofs.Ytagdclbpgkilgaa
