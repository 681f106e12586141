/- What the model draws of a flash: size, a bus cycle. -/
import Derived.Test.YtapopagphoiemaaBusWrite
import Derived.Test.YtapopagphoiemaaNewFlash
import Derived.Test.YtapopagphoiemaaDraw
import Derived.Deep.RegionWith
namespace Go.Proofs.Ytapopagphoiemaa
open Go.RowKit

theorem Src.below {w w' : World} {b B : Nat} {A : Option Addr} {n c : Nat} {zs : List Nat} {K : Nat} (h : Src w b A n c zs K) (hb : Below B w w') (ho : b < B) : Src w' b A n c zs K := by
  obtain ⟨k, sd, q1, q2, q3, q4, q5⟩ := h
  refine ⟨k, sd, q1.below hb ho, q2, q3, q4, fun i hi => ?_⟩
  obtain ⟨bb, off, e, p1, p2, p3⟩ := q5 i hi
  exact ⟨bb, off, e, p1, (hb.cell (by show bb < B; omega)).trans p2, p3⟩
theorem Src.drew {w : World} {b : Nat} {A : Option Addr} {n c : Nat} {zs : List Nat} {K : Nat} (h : Src w b A n c zs K) : Src w.drew b A n c zs K := h.below (Below.refl _ _).drew h.lt
theorem Src.alloc {w : World} {b : Nat} {A : Option Addr} {n c : Nat} {zs : List Nat} {K : Nat} (h : Src w b A n c zs K) (o : Obj) : Src (w.alloc o) b A n c zs K := h.below (alloc_below w o) h.lt

set_option maxRecDepth 100000 in
set_option maxHeartbeats 4000000 in
theorem srcSize (b : Nat) (A : Option Addr) (n c : Nat) (zs : List Nat) (K : Nat) (w : World) (hn : n ≤ maxLen) (h : Src w b A n c zs K) :
    Calls Try.prog 77 #[.pointer (some ⟨b, 0, none⟩), .int .i64 30] w fun e w' => ∃ v : Nat, e = .returned (.int .i64 v) ∧ (1 ≤ v ∧ v ≤ 30) ∧ w = w' := by
  unfold maxLen at hn
  obtain ⟨k, sd, X, q2, q3, q4, q5⟩ := h
  have x0 := X.cell 0 rfl
  clear X q5
  go_enter Try.func77, Try.ntmps77
  go_wp2
  · refine bodyPost_ret (v := .int .i64 ((30 : Nat) : Int)) (by simp [results, Try.results77, go_sem]) rfl ?_
    exact ⟨30, rfl, by omega, rfl⟩
  · refine bodyPost_ret (v := .int .i64 ((1 + n / 12 : Nat) : Int)) (by simp [results, Try.results77, go_sem]) rfl ?_
    exact ⟨_, rfl, by omega, rfl⟩

def tab6 (i : Nat) : Nat := [160, 160, 128, 144, 154, 240].getD i 0
def tab3 (i : Nat) : Nat := [48, 48, 16].getD i 0
def tab2 (i : Nat) : Nat := [240, 0].getD i 0
theorem tab6_lt (i : Nat) : tab6 i < 256 := by
  match i with
  | 0 | 1 | 2 | 3 | 4 | 5 => decide
  | i + 6 => show 0 < 256; omega
theorem tab3_lt (i : Nat) : tab3 i < 256 := by
  match i with
  | 0 | 1 | 2 => decide
  | i + 3 => show 0 < 256; omega
theorem tab2_lt (i : Nat) : tab2 i < 256 := by
  match i with
  | 0 | 1 => decide
  | i + 2 => show 0 < 256; omega
theorem cell6 {w : World} {b : Nat} (h : Box w b 3 #[.int .i64 160, .int .i64 160, .int .i64 128, .int .i64 144, .int .i64 154, .int .i64 240]) (i : Nat) (hi : i < 6) : w.cell? ⟨b, i, none⟩ = some (.int .i64 (tab6 i : Nat)) := by
  match i, hi with
  | 0, _ => exact h.cell 0 rfl
  | 1, _ => exact h.cell 1 rfl
  | 2, _ => exact h.cell 2 rfl
  | 3, _ => exact h.cell 3 rfl
  | 4, _ => exact h.cell 4 rfl
  | 5, _ => exact h.cell 5 rfl
theorem cell3 {w : World} {b : Nat} (h : Box w b 3 #[.int .i64 48, .int .i64 48, .int .i64 16]) (i : Nat) (hi : i < 3) : w.cell? ⟨b, i, none⟩ = some (.int .i64 (tab3 i : Nat)) := by
  match i, hi with
  | 0, _ => exact h.cell 0 rfl
  | 1, _ => exact h.cell 1 rfl
  | 2, _ => exact h.cell 2 rfl
theorem cell2 {w : World} {b : Nat} (h : Box w b 3 #[.int .i64 240, .int .i64 0]) (i : Nat) (hi : i < 2) : w.cell? ⟨b, i, none⟩ = some (.int .i64 (tab2 i : Nat)) := by
  match i, hi with
  | 0, _ => exact h.cell 0 rfl
  | 1, _ => exact h.cell 1 rfl

/-- A drawn cycle. -/
def GivesCycle (w : World) (b : Nat) (A : Option Addr) (n c : Nat) (zs : List Nat) (K : Nat) (e : Ending) (w' : World) : Prop :=
  ∃ k v : Nat, e = .returned (.tuple #[.int .i64 k, .int .i64 v]) ∧ (k < 256 ∧ v < 256) ∧ Hid (Src w' b A n c zs (K + 3)) ∧ Btw b (b + 1) w w'

set_option maxRecDepth 100000 in
set_option maxHeartbeats 8000000 in
theorem srcCycle (st : Int) (b : Nat) (A : Option Addr) (n c : Nat) (zs : List Nat) (K : Nat) (w : World) (hK : K ≤ 100000) (h : Src w b A n c zs K) :
    Calls Try.prog 41 #[.pointer (some ⟨b, 0, none⟩), .int .i64 st] w (GivesCycle w b A n c zs K) := by
  have HC := Lib.hid (srcChance 4 b A n c zs K w (by omega) (by omega) (by omega) h)
  have HN := Lib.hid (fun N K' W (hN : 2 ≤ N) (hN2 : N ≤ 256) (hK' : K' ≤ K + 3) (h : Src W b A n c zs K') => srcNext N b A n c zs K' W hN hN2 (by omega) h)
  clear h
  go_enter Try.func41, Try.ntmps41
  go_wp2_with fail
  refine HC.out.mono ?_
  rintro e w1 ⟨q, rfl, S1, hb1⟩
  clear HC
  have hlt := S1.out.lt
  cases q
  · by_cases h2 : st = 2
    · subst h2
      have HT := Lib.hid (fun W => cell6 (Box.new W 3 #[.int .i64 160, .int .i64 160, .int .i64 128, .int .i64 144, .int .i64 154, .int .i64 240]))
      have HT2 := Lib.hid (fun w2 (hb : Btw b (b + 1) (w1.alloc (.cells #[.int .i64 160, .int .i64 160, .int .i64 128, .int .i64 144, .int .i64 154, .int .i64 240] 3)).drew w2) => cell6 ((Box.new w1 3 #[.int .i64 160, .int .i64 160, .int .i64 128, .int .i64 144, .int .i64 154, .int .i64 240]).drew.btw hb (.inr (by omega))))
      go_wp2_with fail
      go_region_with (first
        | (go_at_call 76; refine (HN.out 6 (K + 1) w1.drew (by omega) (by omega) (by omega) S1.out.drew).mono ?_; rintro e w2 ⟨v, rfl, hv, S2, hb2⟩; have hc := HT.out w2 v hv; have hv6 : (v : Int) < 6 := by omega)
        | (go_at_call 76; refine (HN.out 6 (K + 1) (w1.alloc (.cells #[.int .i64 160, .int .i64 160, .int .i64 128, .int .i64 144, .int .i64 154, .int .i64 240] 3)).drew (by omega) (by omega) (by omega) (S1.out.alloc _).drew).mono ?_; rintro e w2 ⟨v, rfl, hv, S2, hb2⟩; have hc := HT2.out w2 hb2 v hv; have hv6 : (v : Int) < 6 := by omega))
      all_goals (
        go_wp2
        refine bodyPost_ret (v := .tuple #[.int .i64 ((85 : Nat) : Int), .int .i64 (tab6 v : Nat)]) (by simp [results, Try.results41, go_sem]) rfl ?_
        first
        | exact ⟨85, tab6 v, rfl, ⟨by omega, tab6_lt v⟩, Lib.hid ((S2.out.alloc _).mono (by omega)), ((hb1.drew).trans hb2).alloc _⟩
        | exact ⟨85, tab6 v, rfl, ⟨by omega, tab6_lt v⟩, Lib.hid (S2.out.mono (by omega)), ((hb1.alloc _).drew).trans hb2⟩)
    by_cases hs6 : st = 6
    · subst hs6
      have HT := Lib.hid (fun W => cell3 (Box.new W 3 #[.int .i64 48, .int .i64 48, .int .i64 16]))
      have HT2 := Lib.hid (fun w2 (hb : Btw b (b + 1) (w1.alloc (.cells #[.int .i64 48, .int .i64 48, .int .i64 16] 3)).drew w2) => cell3 ((Box.new w1 3 #[.int .i64 48, .int .i64 48, .int .i64 16]).drew.btw hb (.inr (by omega))))
      have HT3 := Lib.hid (fun w2 w3 (hbs : b < w2.heap.size) (hb : Btw b (b + 1) (w2.alloc (.cells #[.int .i64 48, .int .i64 48, .int .i64 16] 3)) w3) => cell3 ((Box.new w2 3 #[.int .i64 48, .int .i64 48, .int .i64 16]).btw hb (.inr (by omega))))
      go_wp2_with fail
      go_region_with (first
        | (go_at_call 76; refine (HN.out 3 (K + 1 + 1) w2 (by omega) (by omega) (by omega) S2.out).mono ?_; rintro e w3 ⟨v, rfl, hv, S3, hb3⟩; first | (have hc := HT2.out w3 (hb2.trans hb3) v hv; have hvi : (v : Int) < 3 := by omega) | (have hc := HT.out w3 v hv; have hvi : (v : Int) < 3 := by omega))
        | (go_at_call 76; refine (HN.out 3 (K + 1 + 1) (w2.alloc (.cells #[.int .i64 48, .int .i64 48, .int .i64 16] 3)) (by omega) (by omega) (by omega) (S2.out.alloc _)).mono ?_; rintro e w3 ⟨v, rfl, hv, S3, hb3⟩; have hc := HT3.out w2 w3 S2.out.lt hb3 v hv; have hvi : (v : Int) < 3 := by omega)
        | (go_at_call 76; refine (HN.out 256 (K + 1) w1.drew (by omega) (by omega) (by omega) S1.out.drew).mono ?_; rintro e w2 ⟨v2, rfl, hv2, S2, hb2⟩)
        | (go_at_call 76; refine (HN.out 256 (K + 1) (w1.alloc (.cells #[.int .i64 48, .int .i64 48, .int .i64 16] 3)).drew (by omega) (by omega) (by omega) (S1.out.alloc _).drew).mono ?_; rintro e w2 ⟨v2, rfl, hv2, S2, hb2⟩))
      all_goals (
        go_wp2
        refine bodyPost_ret (v := .tuple #[.int .i64 v2, .int .i64 (tab3 v : Nat)]) (by simp [results, Try.results41, go_sem]) rfl ?_
        first
        | exact ⟨v2, tab3 v, rfl, ⟨hv2, tab3_lt v⟩, S3, ((hb1.drew).trans hb2).trans hb3⟩
        | exact ⟨v2, tab3 v, rfl, ⟨hv2, tab3_lt v⟩, S3, (((hb1.alloc _).drew).trans hb2).trans hb3⟩
        | exact ⟨v2, tab3 v, rfl, ⟨hv2, tab3_lt v⟩, S3, (((hb1.drew).trans hb2).alloc _).trans hb3⟩
        | exact ⟨v2, tab3 v, rfl, ⟨hv2, tab3_lt v⟩, Lib.hid (S3.out.alloc _), (((hb1.drew).trans hb2).trans hb3).alloc _⟩)
    by_cases hs7 : st = 7
    · subst hs7
      have HT := Lib.hid (fun W => cell2 (Box.new W 3 #[.int .i64 240, .int .i64 0]))
      have HT2 := Lib.hid (fun w2 (hb : Btw b (b + 1) (w1.alloc (.cells #[.int .i64 240, .int .i64 0] 3)).drew w2) => cell2 ((Box.new w1 3 #[.int .i64 240, .int .i64 0]).drew.btw hb (.inr (by omega))))
      have HT3 := Lib.hid (fun w2 w3 (hbs : b < w2.heap.size) (hb : Btw b (b + 1) (w2.alloc (.cells #[.int .i64 240, .int .i64 0] 3)) w3) => cell2 ((Box.new w2 3 #[.int .i64 240, .int .i64 0]).btw hb (.inr (by omega))))
      go_wp2_with fail
      go_region_with (first
        | (go_at_call 76; refine (HN.out 2 (K + 1 + 1) w2 (by omega) (by omega) (by omega) S2.out).mono ?_; rintro e w3 ⟨v, rfl, hv, S3, hb3⟩; first | (have hc := HT2.out w3 (hb2.trans hb3) v hv; have hvi : (v : Int) < 2 := by omega) | (have hc := HT.out w3 v hv; have hvi : (v : Int) < 2 := by omega))
        | (go_at_call 76; refine (HN.out 2 (K + 1 + 1) (w2.alloc (.cells #[.int .i64 240, .int .i64 0] 3)) (by omega) (by omega) (by omega) (S2.out.alloc _)).mono ?_; rintro e w3 ⟨v, rfl, hv, S3, hb3⟩; have hc := HT3.out w2 w3 S2.out.lt hb3 v hv; have hvi : (v : Int) < 2 := by omega)
        | (go_at_call 76; refine (HN.out 256 (K + 1) w1.drew (by omega) (by omega) (by omega) S1.out.drew).mono ?_; rintro e w2 ⟨v2, rfl, hv2, S2, hb2⟩)
        | (go_at_call 76; refine (HN.out 256 (K + 1) (w1.alloc (.cells #[.int .i64 240, .int .i64 0] 3)).drew (by omega) (by omega) (by omega) (S1.out.alloc _).drew).mono ?_; rintro e w2 ⟨v2, rfl, hv2, S2, hb2⟩))
      all_goals (
        go_wp2
        refine bodyPost_ret (v := .tuple #[.int .i64 v2, .int .i64 (tab2 v : Nat)]) (by simp [results, Try.results41, go_sem]) rfl ?_
        first
        | exact ⟨v2, tab2 v, rfl, ⟨hv2, tab2_lt v⟩, S3, ((hb1.drew).trans hb2).trans hb3⟩
        | exact ⟨v2, tab2 v, rfl, ⟨hv2, tab2_lt v⟩, S3, (((hb1.alloc _).drew).trans hb2).trans hb3⟩
        | exact ⟨v2, tab2 v, rfl, ⟨hv2, tab2_lt v⟩, S3, (((hb1.drew).trans hb2).alloc _).trans hb3⟩
        | exact ⟨v2, tab2 v, rfl, ⟨hv2, tab2_lt v⟩, Lib.hid (S3.out.alloc _), (((hb1.drew).trans hb2).trans hb3).alloc _⟩)
    by_cases hs0 : st = 0
    · subst hs0
      go_wp2
      refine bodyPost_ret (v := .tuple #[.int .i64 ((85 : Nat) : Int), .int .i64 ((170 : Nat) : Int)]) (by simp [results, Try.results41, go_sem]) rfl ?_
      exact ⟨85, 170, rfl, ⟨by omega, by omega⟩, Lib.hid (S1.out.mono (by omega)), hb1⟩
    by_cases hs4 : st = 4
    · subst hs4
      go_wp2
      refine bodyPost_ret (v := .tuple #[.int .i64 ((85 : Nat) : Int), .int .i64 ((170 : Nat) : Int)]) (by simp [results, Try.results41, go_sem]) rfl ?_
      exact ⟨85, 170, rfl, ⟨by omega, by omega⟩, Lib.hid (S1.out.mono (by omega)), hb1⟩
    by_cases hs1 : st = 1
    · subst hs1
      go_wp2
      refine bodyPost_ret (v := .tuple #[.int .i64 ((42 : Nat) : Int), .int .i64 ((85 : Nat) : Int)]) (by simp [results, Try.results41, go_sem]) rfl ?_
      exact ⟨42, 85, rfl, ⟨by omega, by omega⟩, Lib.hid (S1.out.mono (by omega)), hb1⟩
    by_cases hs5 : st = 5
    · subst hs5
      go_wp2
      refine bodyPost_ret (v := .tuple #[.int .i64 ((42 : Nat) : Int), .int .i64 ((85 : Nat) : Int)]) (by simp [results, Try.results41, go_sem]) rfl ?_
      exact ⟨42, 85, rfl, ⟨by omega, by omega⟩, Lib.hid (S1.out.mono (by omega)), hb1⟩
    have g0 : (st == 0) = false := by simp [hs0]
    have g1 : (st == 1) = false := by simp [hs1]
    have g2 : (st == 2) = false := by simp [h2]
    have g4 : (st == 4) = false := by simp [hs4]
    have g5 : (st == 5) = false := by simp [hs5]
    have g6 : (st == 6) = false := by simp [hs6]
    have g7 : (st == 7) = false := by simp [hs7]
    clear hs0 hs1 h2 hs4 hs5 hs6 hs7
    go_wp2_with fail
    refine (HN.out 256 (K + 1) w1 (by omega) (by omega) (by omega) S1.out).mono ?_
    rintro e w2 ⟨v2, rfl, hv2, S2, hb2⟩
    go_wp2_with fail
    refine (HN.out 256 (K + 1 + 1) w2 (by omega) (by omega) (by omega) S2.out).mono ?_
    rintro e w3 ⟨v3, rfl, hv3, S3, hb3⟩
    go_wp2
    refine bodyPost_ret (v := .tuple #[.int .i64 v2, .int .i64 v3]) (by simp [results, Try.results41, go_sem]) rfl ?_
    exact ⟨v2, v3, rfl, ⟨hv2, hv3⟩, S3, (hb1.trans hb2).trans hb3⟩
  · go_wp2_with fail
    refine (HN.out 256 (K + 1) w1 (by omega) (by omega) (by omega) S1.out).mono ?_
    rintro e w2 ⟨v2, rfl, hv2, S2, hb2⟩
    go_wp2_with fail
    refine (HN.out 256 (K + 1 + 1) w2 (by omega) (by omega) (by omega) S2.out).mono ?_
    rintro e w3 ⟨v3, rfl, hv3, S3, hb3⟩
    go_wp2
    refine bodyPost_ret (v := .tuple #[.int .i64 v2, .int .i64 v3]) (by simp [results, Try.results41, go_sem]) rfl ?_
    exact ⟨v2, v3, rfl, ⟨hv2, hv3⟩, S3, (hb1.trans hb2).trans hb3⟩


/-- A valid flash that lies in memory of its own from lo on. -/
structure FK (lo R D : Nat) (A : Option Addr) (c : Nat) (C : Option Addr) (d : Nat) (st : Int) (zs : List Int) (gs : List Bool) (w : World) : Prop where
  x : Box w D 26 #[.slice A 256 c, .slice C 16 d, .int .i64 st]
  y : Box w R 26 #[.slice none 0 0, .slice none 0 0, .int .i64 0]
  s : OwnI w lo w.heap.size A zs
  r : OwnB w lo w.heap.size C gs
theorem FK.btw {lo b R D : Nat} {A : Option Addr} {c : Nat} {C : Option Addr} {d : Nat} {st : Int} {zs : List Int} {gs : List Bool} {w w' : World} (h : FK lo R D A c C d st zs gs w) (hb : Btw b (b + 1) w w') (h1 : b < lo) (h2 : lo ≤ R) (h3 : lo ≤ D) : FK lo R D A c C d st zs gs w' :=
  ⟨h.x.btw hb (.inr (by omega)), h.y.btw hb (.inr (by omega)), (h.s.btw hb (.inr (by omega))).wideB (Nat.le_refl _) hb.size, (h.r.btw hb (.inr (by omega))).wide (Nat.le_refl _) hb.size⟩
theorem FK.step {lo R D : Nat} {A : Option Addr} {c : Nat} {C : Option Addr} {d : Nat} {st : Int} {zs : List Int} {gs : List Bool} {w w' : World} (h : FK lo R D A c C d st zs gs w) (hb : Below w.heap.size w w') : FK lo R D A c C d st zs gs w' :=
  ⟨h.x.step hb, h.y.step hb, (h.s.btw (Btw.of_below hb 0 0) (.inr (Nat.zero_le _))).wideB (Nat.le_refl _) hb.size, (h.r.btw (Btw.of_below hb 0 0) (.inr (Nat.zero_le _))).wide (Nat.le_refl _) hb.size⟩
theorem FK.store {lo R D : Nat} {A : Option Addr} {c : Nat} {C : Option Addr} {d : Nat} {st : Int} {zs : List Int} {gs : List Bool} {w : World} (h : FK lo R D A c C d st zs gs w) (hne : R ≠ D) {A2 : Option Addr} {c2 : Nat} {C2 : Option Addr} {d2 : Nat} {st2 : Int} {zs2 : List Int} {gs2 : List Bool} (S2 : OwnI w lo w.heap.size A2 zs2) (R2 : OwnB w lo w.heap.size C2 gs2) :
    FK lo R D A2 c2 C2 d2 st2 zs2 gs2 (((w.setCell ⟨D, 0, none⟩ (.slice A2 256 c2)).setCell ⟨D, 1, none⟩ (.slice C2 16 d2)).setCell ⟨D, 2, none⟩ (.int .i64 st2)) :=
  ⟨h.x.flash3 rfl _ _ _, h.y.far3 hne _ _ _, by rw [size3]; exact S2.far3 h.x _ _ _, by rw [size3]; exact R2.far3 h.x _ _ _⟩
theorem btw_below {lo hi B : Nat} {w w1 w2 : World} (h : Btw lo hi w w1) (hb : Below B w1 w2) (hB : w.heap.size ≤ B) : Btw lo hi w w2 :=
  ⟨hb.os.trans h.os, hb.tape.trans h.tape, hb.output.trans h.output, Nat.le_trans h.size hb.size, fun k hk ho => (hb.block k (Nat.lt_of_lt_of_le hk hB)).trans (h.block k hk ho)⟩
theorem ok_newFlash : okFlash newZ zG 0 = true := by decide +kernel
theorem ok_cycle {zs : List Int} {gs : List Bool} {st : Int} (h : okFlash zs gs st = true) (k v : Nat) (hv : v < 256) : okFlash (cycZ zs gs st k v) (cycG gs st k) (nextS st k v) = true := by
  obtain ⟨h1, h2, h3, h4⟩ := okFlash_len h
  exact okFlash_mk (by rw [cycZ_len]; exact h1) (by rw [cycG_len]; exact h2) (nextS_in _ _ _) (cycZ_range h4 hv)

/-- A drawn flash: valid, of its own. -/
def GivesFlashX (w : World) (R : World → Prop) (e : Ending) (w' : World) : Prop :=
  ∃ zs gs st A c C d, Hid (okFlash zs gs st = true) ∧ e = .returned (.agg #[.slice A 256 c, .slice C 16 d, .int .i64 st]) ∧ Hid (OwnI w' w.heap.size w'.heap.size A zs) ∧ Hid (OwnB w' w.heap.size w'.heap.size C gs) ∧ Hid (R w')
/-- What the loop keeps. -/
def FlashInv (w : World) (b R D : Nat) (A : Option Addr) (n c : Nat) (zs : List Nat) (K i : Nat) (wr : World) : Prop :=
  ∃ A' c' C' d' st zs' gs', Hid (FK w.heap.size R D A' c' C' d' st zs' gs' wr) ∧ Hid (okFlash zs' gs' st = true) ∧ Hid (Src wr b A n c zs (K + 1 + 3 * (40 - i))) ∧ Btw b (b + 1) w wr

set_option maxRecDepth 100000 in
set_option maxHeartbeats 4000000 in
theorem srcFlash (b : Nat) (A : Option Addr) (n c : Nat) (zs : List Nat) (K : Nat) (w : World) (hn : n ≤ maxLen) (hK : K ≤ 1000) (h : Src w b A n c zs K) :
    Calls Try.prog 40 #[.pointer (some ⟨b, 0, none⟩)] w (GivesFlashX w (fun w' => Src w' b A n c zs (K + 121) ∧ Btw b (b + 1) w w')) := by
  have hlt : b < w.heap.size := h.lt
  obtain ⟨W0, hW0⟩ : ∃ W0, W0 = w.alloc (.cells #[.slice none 0 0, .slice none 0 0, .int .i64 0] 26) := ⟨_, rfl⟩
  have hb0 : Below w.heap.size w W0 := by rw [hW0]; exact alloc_below _ _
  have HY0 : Hid (Box W0 w.heap.size 26 #[.slice none 0 0, .slice none 0 0, .int .i64 0]) := Lib.hid (by rw [hW0]; exact Box.new _ _ _)
  have HS0 := Lib.hid (h.below hb0 hlt)
  have HW0 := Lib.hid hW0
  have HSi := Lib.hid (fun W (h : Src W b A n c zs K) => srcSize b A n c zs K W hn h)
  clear h hW0 hn
  go_enter Try.func40, Try.ntmps40
  go_wp2_with fail
  rw [← HW0.out]
  refine (specNewFlash W0).mono ?_
  rintro e w1 ⟨A1, n1, c1, C1, m1, d1, rfl, L1, M1, S1, R1, hb1⟩
  obtain rfl : n1 = 256 := by have := L1.out; rw [newZ_len] at this; exact this.symm
  obtain rfl : m1 = 16 := by have := M1.out; rw [zG_len] at this; exact this.symm
  have hsz : w.heap.size + 1 ≤ w1.heap.size := by have := HY0.out.lt; have := hb1.size; omega
  have HB1 := Lib.hid (bt hb0 hb1)
  have HY1 := Lib.hid (HY0.out.step hb1)
  have HS1 := Lib.hid (HS0.out.below hb1 (by have := HY0.out.lt; omega))
  have hba := alloc_below w1 (.cells #[.slice A1 256 c1, .slice C1 16 d1, .int .i64 0] 26)
  have HFK : Hid (FK w.heap.size w.heap.size w1.heap.size A1 c1 C1 d1 0 newZ zG (w1.alloc (.cells #[.slice A1 256 c1, .slice C1 16 d1, .int .i64 0] 26))) := Lib.hid ⟨Box.new _ _ _, HY1.out.step hba, ((S1.out.btw (Btw.of_below hba 0 0) (.inr (Nat.zero_le _))).wideB hb0.size hba.size), ((R1.out.btw (Btw.of_below hba 0 0) (.inr (Nat.zero_le _))).wide hb0.size hba.size)⟩
  have HS2 := Lib.hid (HS1.out.below hba (by omega))
  have HB2 : Hid (Btw b (b + 1) w (w1.alloc (.cells #[.slice A1 256 c1, .slice C1 16 d1, .int .i64 0] 26))) := Lib.hid (Btw.of_below (bt HB1.out hba) b (b + 1))
  clear HY0 HS0 HW0 HY1 HS1 HB1 S1 R1 hba hb0 hb1 W0 L1 M1
  go_wp2_with fail
  generalize w1.alloc (.cells #[.slice A1 256 c1, .slice C1 16 d1, .int .i64 0] 26) = w2 at HFK HS2 HB2 ⊢
  refine (HSi.out w2 HS2.out).mono ?_
  rintro e w2' ⟨v0, rfl, ⟨hv0, hv1⟩, rfl⟩
  have HNx := Lib.hid (srcNext (v0 + 8) b A n c zs K w2 (by omega) (by omega) (by omega) HS2.out)
  rw [show ((v0 + 8 : Nat) : Int) = (v0 : Int) + 8 by omega] at HNx
  go_wp2_with fail
  refine HNx.out.mono ?_
  rintro e w3 ⟨v, rfl, hv, S3, hb3⟩
  have HFK3 := Lib.hid (HFK.out.btw hb3 hlt (Nat.le_refl _) (by omega))
  have HB3 := Lib.hid (HB2.out.trans hb3)
  obtain ⟨D, hD⟩ : ∃ D, D = w1.heap.size := ⟨_, rfl⟩
  rw [← hD] at HFK3 ⊢
  have hDl : w.heap.size + 1 ≤ D := by omega
  have hv38 : v ≤ 40 := by omega
  clear HFK HS2 HB2 hb3 hD hsz w1 w2 HSi hv0 hv1 hv HNx
  go_wp2
  go_loopw [4] (fun q wr => ∃ i : Nat, i ≤ 40 ∧ q = .int .i64 i ∧ FlashInv w b w.heap.size D A n c zs K i wr) (fun q _ => (intOf q).toNat)
  case atStart => exact ⟨v, hv38, rfl, A1, c1, C1, d1, 0, newZ, zG, HFK3, Lib.hid ok_newFlash, Lib.hid (S3.out.mono (by omega)), HB3.out⟩
  case round =>
    clear HFK3 HB3 S3 hv38
    obtain ⟨i, hi8, rfl, A', c', C', d', st, zs', gs', HF, HO, HS, hbw⟩ := hrel
    have f0 := HF.out.x.cell 0 rfl
    have f1 := HF.out.x.cell 1 rfl
    have f2 := HF.out.x.cell 2 rfl
    by_cases hi : 0 < i
    · have hi' : (0 : Int) < (i : Int) := by omega
      go_wp2_with fail
      refine (srcCycle st b A n c zs (K + 1 + 3 * (40 - i)) wr (by omega) HS.out).mono ?_
      rintro e w4 ⟨k, u, rfl, hku, S4, hb4⟩
      have F4 := Lib.hid (HF.out.btw hb4 hlt (Nat.le_refl _) (by omega))
      have HB4 := Lib.hid (hbw.trans hb4)
      clear HF HS hbw hb4 f0 f1 f2
      have f0 := F4.out.x.cell 0 rfl
      have f1 := F4.out.x.cell 1 rfl
      have f2 := F4.out.x.cell 2 rfl
      have HW := Lib.hid (l03Write0 A' C' c' d' k u st zs' gs' w4 hku.1 hku.2 (okFlash_len HO.out).2.2.1 (okFlash_len HO.out).2.2.2 ⟨⟨(okFlash_len HO.out).1, (okFlash_len HO.out).2.1⟩, F4.out.s.reads, F4.out.r.reads⟩)
      have HO5 := Lib.hid (ok_cycle HO.out k u hku.2)
      generalize cycZ zs' gs' st k u = zr at HW HO5
      generalize cycG gs' st k = gr at HW HO5
      generalize nextS st k u = sr at HW HO5
      clear HO
      go_wp2_with fail
      refine HW.out.mono ?_
      intro e w5 hW5
      have hsz4 : w.heap.size ≤ w4.heap.size := HB4.out.size
      have h5 : ∃ A5 c5 C5 d5, e = .returned (.agg #[.slice A5 256 c5, .slice C5 16 d5, .int .i64 sr]) ∧ OwnI w5 w.heap.size w5.heap.size A5 zr ∧ OwnB w5 w.heap.size w5.heap.size C5 gr ∧ Below w4.heap.size w4 w5 := by
        rcases hW5 with ⟨A5, n5, c5, C5, m5, d5, rfl, L5, M5, S5, R5, hb5⟩ | ⟨rfl, rfl, rfl, hb5⟩
        · obtain rfl : n5 = 256 := by have := L5.out; have := (okFlash_len HO5.out).1; omega
          obtain rfl : m5 = 16 := by have := M5.out; have := (okFlash_len HO5.out).2.1; omega
          exact ⟨A5, c5, C5, d5, rfl, S5.out.wideB hsz4 (Nat.le_refl _), R5.out.wide hsz4 (Nat.le_refl _), hb5⟩
        · exact ⟨A', c', C', d', rfl, (F4.out.step hb5).s, (F4.out.step hb5).r, hb5⟩
      clear hW5
      obtain ⟨A5, c5, C5, d5, rfl, S5, R5, hb5⟩ := h5
      have F5 := Lib.hid (F4.out.step hb5)
      have q1 : Below w.heap.size w5 (((w5.setCell ⟨D, 0, none⟩ (.slice A5 256 c5)).setCell ⟨D, 1, none⟩ (.slice C5 16 d5)).setCell ⟨D, 2, none⟩ (.int .i64 sr)) := (((Below.refl _ _).setCell (p := ⟨D, 0, none⟩) (by show w.heap.size ≤ D; omega) _).setCell (p := ⟨D, 1, none⟩) (by show w.heap.size ≤ D; omega) _).setCell (p := ⟨D, 2, none⟩) (by show w.heap.size ≤ D; omega) _
      have F6 := Lib.hid (F5.out.store (by omega) (c2 := c5) (d2 := d5) (st2 := sr) S5 R5)
      have S6 := Lib.hid ((S4.out.below hb5 (by omega)).below q1 hlt)
      have B6 := Lib.hid (btw_below (btw_below HB4.out hb5 hsz4) q1 (Nat.le_refl _))
      have g0 := F5.out.x.cell 0 rfl
      have g1 := F5.out.x.cell 1 rfl
      have g2 := F5.out.x.cell 2 rfl
      have g0z := F5.out.x.frozen 0
      have g1z := F5.out.x.frozen 1
      have g2z := F5.out.x.frozen 2
      clear f0 f1 f2 F4 F5 S4 HB4 S5 R5 hb5 q1 hsz4 HW
      go_wp2
      go_roundw
      case rel => exact ⟨i - 1, by omega, by go_num, A5, c5, C5, d5, sr, zr, gr, F6, HO5, Lib.hid (S6.out.mono (by omega)), B6.out⟩
      case measure => simp [intOf]; omega
    · have hi' : ¬ (0 : Int) < (i : Int) := by omega
      have HC := Lib.hid (l03Own A' C' 256 c' 16 d' st zs' gs' wr (okFlash_len HO.out).1 (okFlash_len HO.out).2.1 rfl rfl HF.out.s.reads HF.out.r.reads)
      go_wp2_with fail
      refine HC.out.mono ?_
      rintro e w2 ⟨A2, n2, c2, C2, m2, d2, rfl, L2, M2, S2, R2, hb2⟩
      obtain rfl : n2 = 256 := by have := L2.out; have := (okFlash_len HO.out).1; omega
      obtain rfl : m2 = 16 := by have := M2.out; have := (okFlash_len HO.out).2.1; omega
      have Y2 := Lib.hid (HF.out.y.step hb2)
      have g0 := Y2.out.cell 0 rfl
      have g1 := Y2.out.cell 1 rfl
      have g2 := Y2.out.cell 2 rfl
      have g0z := Y2.out.frozen 0
      have g1z := Y2.out.frozen 1
      have g2z := Y2.out.frozen 2
      clear f0 f1 f2 HC
      go_wp2
      refine bodyPost_ret (v := .agg #[.slice A2 256 c2, .slice C2 16 d2, .int .i64 st]) (by simp [results, Try.results40, go_sem, g0, g1, g2]) rfl ?_
      have hszr : w.heap.size ≤ wr.heap.size := hbw.size
      have q1 : Below w.heap.size w2 (((w2.setCell ⟨w.heap.size, 0, none⟩ (.slice A2 256 c2)).setCell ⟨w.heap.size, 1, none⟩ (.slice C2 16 d2)).setCell ⟨w.heap.size, 2, none⟩ (.int .i64 st)) := (((Below.refl _ _).setCell (p := ⟨w.heap.size, 0, none⟩) (Nat.le_refl _) _).setCell (p := ⟨w.heap.size, 1, none⟩) (Nat.le_refl _) _).setCell (p := ⟨w.heap.size, 2, none⟩) (Nat.le_refl _) _
      exact ⟨zs', gs', st, A2, c2, C2, d2, HO, rfl, Lib.hid (by rw [size3]; exact (S2.out.far3 Y2.out _ _ _).wideB hszr (Nat.le_refl _)), Lib.hid (by rw [size3]; exact (R2.out.far3 Y2.out _ _ _).wide hszr (Nat.le_refl _)), Lib.hid ⟨((HS.out.below hb2 (by omega)).below q1 hlt).mono (by omega), btw_below (btw_below hbw hb2 hszr) q1 (Nat.le_refl _)⟩⟩
end Go.Proofs.Ytapopagphoiemaa
