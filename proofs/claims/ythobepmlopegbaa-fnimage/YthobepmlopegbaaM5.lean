/- Texts of this claim, one behind the other: FlashDraw, FlashCyc, SameFlash, SameArray, WalkImage. -/
import Derived.Deep.RegionWith
import Derived.Deep.RegionHeld3
import Derived.Test.YthobepmlopegbaaM4
/- What the model draws of a flash: size, a bus cycle. -/
namespace Go.Proofs.Ythobepmlopegbaa
open Go.RowKit

theorem Src.below {w w' : World} {b B : Nat} {A : Option Addr} {n c : Nat} {zs : List Nat} {K : Nat} (h : Src w b A n c zs K) (hb : Below B w w') (ho : b < B) : Src w' b A n c zs K := by
  obtain ⟨k, sd, q1, q2, q3, q4, q5⟩ := h
  refine ⟨k, sd, q1.below hb ho, q2, q3, q4, fun i hi => ?_⟩
  obtain ⟨bb, off, e, p1, p2, p3⟩ := q5 i hi
  exact ⟨bb, off, e, p1, (hb.cell (by show bb < B; omega)).trans p2, p3⟩
theorem Src.drew {w : World} {b : Nat} {A : Option Addr} {n c : Nat} {zs : List Nat} {K : Nat} (h : Src w b A n c zs K) : Src w.drew b A n c zs K := h.below (Below.refl _ _).drew h.lt
theorem Src.alloc {w : World} {b : Nat} {A : Option Addr} {n c : Nat} {zs : List Nat} {K : Nat} (h : Src w b A n c zs K) (o : Obj) : Src (w.alloc o) b A n c zs K := h.below (alloc_below w o) h.lt

set_option maxRecDepth 100000 in
set_option maxHeartbeats 4000000 in
theorem srcSize (b : Nat) (A : Option Addr) (n c : Nat) (zs : List Nat) (K : Nat) (w : World) (hn : n ≤ maxLen) (h : Src w b A n c zs K) :
    Calls Try.prog 68 #[.pointer (some ⟨b, 0, none⟩), .int .i64 30] w fun e w' => ∃ v : Nat, e = .returned (.int .i64 v) ∧ (1 ≤ v ∧ v ≤ 30) ∧ w = w' := by
  unfold maxLen at hn
  obtain ⟨k, sd, X, q2, q3, q4, q5⟩ := h
  have x0 := X.cell 0 rfl
  clear X q5
  go_enter Try.func68, Try.ntmps68
  go_wp2
  · refine bodyPost_ret (v := .int .i64 ((30 : Nat) : Int)) (by simp [results, Try.results68, go_sem]) rfl ?_
    exact ⟨30, rfl, by omega, rfl⟩
  · refine bodyPost_ret (v := .int .i64 ((1 + n / 12 : Nat) : Int)) (by simp [results, Try.results68, go_sem]) rfl ?_
    exact ⟨_, rfl, by omega, rfl⟩

def tab6 (i : Nat) : Nat := [160, 160, 128, 144, 154, 240].getD i 0
def tab3 (i : Nat) : Nat := [48, 48, 16].getD i 0
def tab2 (i : Nat) : Nat := [240, 0].getD i 0
theorem tab6_lt (i : Nat) : tab6 i < 256 := by
  match i with
  | 0 | 1 | 2 | 3 | 4 | 5 => decide
  | i + 6 => show 0 < 256; omega
theorem tab3_lt (i : Nat) : tab3 i < 256 := by
  match i with
  | 0 | 1 | 2 => decide
  | i + 3 => show 0 < 256; omega
theorem tab2_lt (i : Nat) : tab2 i < 256 := by
  match i with
  | 0 | 1 => decide
  | i + 2 => show 0 < 256; omega
theorem cell6 {w : World} {b : Nat} (h : Box w b 3 #[.int .i64 160, .int .i64 160, .int .i64 128, .int .i64 144, .int .i64 154, .int .i64 240]) (i : Nat) (hi : i < 6) : w.cell? ⟨b, i, none⟩ = some (.int .i64 (tab6 i : Nat)) := by
  match i, hi with
  | 0, _ => exact h.cell 0 rfl
  | 1, _ => exact h.cell 1 rfl
  | 2, _ => exact h.cell 2 rfl
  | 3, _ => exact h.cell 3 rfl
  | 4, _ => exact h.cell 4 rfl
  | 5, _ => exact h.cell 5 rfl
theorem cell3 {w : World} {b : Nat} (h : Box w b 3 #[.int .i64 48, .int .i64 48, .int .i64 16]) (i : Nat) (hi : i < 3) : w.cell? ⟨b, i, none⟩ = some (.int .i64 (tab3 i : Nat)) := by
  match i, hi with
  | 0, _ => exact h.cell 0 rfl
  | 1, _ => exact h.cell 1 rfl
  | 2, _ => exact h.cell 2 rfl
theorem cell2 {w : World} {b : Nat} (h : Box w b 3 #[.int .i64 240, .int .i64 0]) (i : Nat) (hi : i < 2) : w.cell? ⟨b, i, none⟩ = some (.int .i64 (tab2 i : Nat)) := by
  match i, hi with
  | 0, _ => exact h.cell 0 rfl
  | 1, _ => exact h.cell 1 rfl

/-- A drawn cycle. -/
def GivesCycle (w : World) (b : Nat) (A : Option Addr) (n c : Nat) (zs : List Nat) (K : Nat) (e : Ending) (w' : World) : Prop :=
  ∃ k v : Nat, e = .returned (.tuple #[.int .i64 k, .int .i64 v]) ∧ (k < 256 ∧ v < 256) ∧ Hid (Src w' b A n c zs (K + 3)) ∧ Btw b (b + 1) w w'

set_option maxRecDepth 100000 in
set_option maxHeartbeats 8000000 in
theorem srcCycle (st : Int) (b : Nat) (A : Option Addr) (n c : Nat) (zs : List Nat) (K : Nat) (w : World) (hK : K ≤ 100000) (h : Src w b A n c zs K) :
    Calls Try.prog 69 #[.pointer (some ⟨b, 0, none⟩), .int .i64 st] w (GivesCycle w b A n c zs K) := by
  have HC := Lib.hid (srcChance 4 b A n c zs K w (by omega) (by omega) (by omega) h)
  have HN := Lib.hid (fun N K' W (hN : 2 ≤ N) (hN2 : N ≤ 256) (hK' : K' ≤ K + 3) (h : Src W b A n c zs K') => srcNext N b A n c zs K' W hN hN2 (by omega) h)
  clear h
  go_enter Try.func69, Try.ntmps69
  go_wp2_with fail
  refine HC.out.mono ?_
  rintro e w1 ⟨q, rfl, S1, hb1⟩
  clear HC
  have hlt := S1.out.lt
  cases q
  · by_cases h2 : st = 2
    · subst h2
      have HT := Lib.hid (fun W => cell6 (Box.new W 3 #[.int .i64 160, .int .i64 160, .int .i64 128, .int .i64 144, .int .i64 154, .int .i64 240]))
      have HT2 := Lib.hid (fun w2 (hb : Btw b (b + 1) (w1.alloc (.cells #[.int .i64 160, .int .i64 160, .int .i64 128, .int .i64 144, .int .i64 154, .int .i64 240] 3)).drew w2) => cell6 ((Box.new w1 3 #[.int .i64 160, .int .i64 160, .int .i64 128, .int .i64 144, .int .i64 154, .int .i64 240]).drew.btw hb (.inr (by omega))))
      go_wp2_with fail
      go_region_with (first
        | (go_at_call 67; refine (HN.out 6 (K + 1) w1.drew (by omega) (by omega) (by omega) S1.out.drew).mono ?_; rintro e w2 ⟨v, rfl, hv, S2, hb2⟩; have hc := HT.out w2 v hv; have hv6 : (v : Int) < 6 := by omega)
        | (go_at_call 67; refine (HN.out 6 (K + 1) (w1.alloc (.cells #[.int .i64 160, .int .i64 160, .int .i64 128, .int .i64 144, .int .i64 154, .int .i64 240] 3)).drew (by omega) (by omega) (by omega) (S1.out.alloc _).drew).mono ?_; rintro e w2 ⟨v, rfl, hv, S2, hb2⟩; have hc := HT2.out w2 hb2 v hv; have hv6 : (v : Int) < 6 := by omega))
      all_goals (
        go_wp2
        refine bodyPost_ret (v := .tuple #[.int .i64 ((85 : Nat) : Int), .int .i64 (tab6 v : Nat)]) (by simp [results, Try.results69, go_sem]) rfl ?_
        first
        | exact ⟨85, tab6 v, rfl, ⟨by omega, tab6_lt v⟩, Lib.hid ((S2.out.alloc _).mono (by omega)), ((hb1.drew).trans hb2).alloc _⟩
        | exact ⟨85, tab6 v, rfl, ⟨by omega, tab6_lt v⟩, Lib.hid (S2.out.mono (by omega)), ((hb1.alloc _).drew).trans hb2⟩)
    by_cases hs6 : st = 6
    · subst hs6
      have HT := Lib.hid (fun W => cell3 (Box.new W 3 #[.int .i64 48, .int .i64 48, .int .i64 16]))
      have HT2 := Lib.hid (fun w2 (hb : Btw b (b + 1) (w1.alloc (.cells #[.int .i64 48, .int .i64 48, .int .i64 16] 3)).drew w2) => cell3 ((Box.new w1 3 #[.int .i64 48, .int .i64 48, .int .i64 16]).drew.btw hb (.inr (by omega))))
      have HT3 := Lib.hid (fun w2 w3 (hbs : b < w2.heap.size) (hb : Btw b (b + 1) (w2.alloc (.cells #[.int .i64 48, .int .i64 48, .int .i64 16] 3)) w3) => cell3 ((Box.new w2 3 #[.int .i64 48, .int .i64 48, .int .i64 16]).btw hb (.inr (by omega))))
      go_wp2_with fail
      go_region_with (first
        | (go_at_call 67; refine (HN.out 3 (K + 1 + 1) w2 (by omega) (by omega) (by omega) S2.out).mono ?_; rintro e w3 ⟨v, rfl, hv, S3, hb3⟩; first | (have hc := HT2.out w3 (hb2.trans hb3) v hv; have hvi : (v : Int) < 3 := by omega) | (have hc := HT.out w3 v hv; have hvi : (v : Int) < 3 := by omega))
        | (go_at_call 67; refine (HN.out 3 (K + 1 + 1) (w2.alloc (.cells #[.int .i64 48, .int .i64 48, .int .i64 16] 3)) (by omega) (by omega) (by omega) (S2.out.alloc _)).mono ?_; rintro e w3 ⟨v, rfl, hv, S3, hb3⟩; have hc := HT3.out w2 w3 S2.out.lt hb3 v hv; have hvi : (v : Int) < 3 := by omega)
        | (go_at_call 67; refine (HN.out 256 (K + 1) w1.drew (by omega) (by omega) (by omega) S1.out.drew).mono ?_; rintro e w2 ⟨v2, rfl, hv2, S2, hb2⟩)
        | (go_at_call 67; refine (HN.out 256 (K + 1) (w1.alloc (.cells #[.int .i64 48, .int .i64 48, .int .i64 16] 3)).drew (by omega) (by omega) (by omega) (S1.out.alloc _).drew).mono ?_; rintro e w2 ⟨v2, rfl, hv2, S2, hb2⟩))
      all_goals (
        go_wp2
        refine bodyPost_ret (v := .tuple #[.int .i64 v2, .int .i64 (tab3 v : Nat)]) (by simp [results, Try.results69, go_sem]) rfl ?_
        first
        | exact ⟨v2, tab3 v, rfl, ⟨hv2, tab3_lt v⟩, S3, ((hb1.drew).trans hb2).trans hb3⟩
        | exact ⟨v2, tab3 v, rfl, ⟨hv2, tab3_lt v⟩, S3, (((hb1.alloc _).drew).trans hb2).trans hb3⟩
        | exact ⟨v2, tab3 v, rfl, ⟨hv2, tab3_lt v⟩, S3, (((hb1.drew).trans hb2).alloc _).trans hb3⟩
        | exact ⟨v2, tab3 v, rfl, ⟨hv2, tab3_lt v⟩, Lib.hid (S3.out.alloc _), (((hb1.drew).trans hb2).trans hb3).alloc _⟩)
    by_cases hs7 : st = 7
    · subst hs7
      have HT := Lib.hid (fun W => cell2 (Box.new W 3 #[.int .i64 240, .int .i64 0]))
      have HT2 := Lib.hid (fun w2 (hb : Btw b (b + 1) (w1.alloc (.cells #[.int .i64 240, .int .i64 0] 3)).drew w2) => cell2 ((Box.new w1 3 #[.int .i64 240, .int .i64 0]).drew.btw hb (.inr (by omega))))
      have HT3 := Lib.hid (fun w2 w3 (hbs : b < w2.heap.size) (hb : Btw b (b + 1) (w2.alloc (.cells #[.int .i64 240, .int .i64 0] 3)) w3) => cell2 ((Box.new w2 3 #[.int .i64 240, .int .i64 0]).btw hb (.inr (by omega))))
      go_wp2_with fail
      go_region_with (first
        | (go_at_call 67; refine (HN.out 2 (K + 1 + 1) w2 (by omega) (by omega) (by omega) S2.out).mono ?_; rintro e w3 ⟨v, rfl, hv, S3, hb3⟩; first | (have hc := HT2.out w3 (hb2.trans hb3) v hv; have hvi : (v : Int) < 2 := by omega) | (have hc := HT.out w3 v hv; have hvi : (v : Int) < 2 := by omega))
        | (go_at_call 67; refine (HN.out 2 (K + 1 + 1) (w2.alloc (.cells #[.int .i64 240, .int .i64 0] 3)) (by omega) (by omega) (by omega) (S2.out.alloc _)).mono ?_; rintro e w3 ⟨v, rfl, hv, S3, hb3⟩; have hc := HT3.out w2 w3 S2.out.lt hb3 v hv; have hvi : (v : Int) < 2 := by omega)
        | (go_at_call 67; refine (HN.out 256 (K + 1) w1.drew (by omega) (by omega) (by omega) S1.out.drew).mono ?_; rintro e w2 ⟨v2, rfl, hv2, S2, hb2⟩)
        | (go_at_call 67; refine (HN.out 256 (K + 1) (w1.alloc (.cells #[.int .i64 240, .int .i64 0] 3)).drew (by omega) (by omega) (by omega) (S1.out.alloc _).drew).mono ?_; rintro e w2 ⟨v2, rfl, hv2, S2, hb2⟩))
      all_goals (
        go_wp2
        refine bodyPost_ret (v := .tuple #[.int .i64 v2, .int .i64 (tab2 v : Nat)]) (by simp [results, Try.results69, go_sem]) rfl ?_
        first
        | exact ⟨v2, tab2 v, rfl, ⟨hv2, tab2_lt v⟩, S3, ((hb1.drew).trans hb2).trans hb3⟩
        | exact ⟨v2, tab2 v, rfl, ⟨hv2, tab2_lt v⟩, S3, (((hb1.alloc _).drew).trans hb2).trans hb3⟩
        | exact ⟨v2, tab2 v, rfl, ⟨hv2, tab2_lt v⟩, S3, (((hb1.drew).trans hb2).alloc _).trans hb3⟩
        | exact ⟨v2, tab2 v, rfl, ⟨hv2, tab2_lt v⟩, Lib.hid (S3.out.alloc _), (((hb1.drew).trans hb2).trans hb3).alloc _⟩)
    by_cases hs0 : st = 0
    · subst hs0
      go_wp2
      refine bodyPost_ret (v := .tuple #[.int .i64 ((85 : Nat) : Int), .int .i64 ((170 : Nat) : Int)]) (by simp [results, Try.results69, go_sem]) rfl ?_
      exact ⟨85, 170, rfl, ⟨by omega, by omega⟩, Lib.hid (S1.out.mono (by omega)), hb1⟩
    by_cases hs4 : st = 4
    · subst hs4
      go_wp2
      refine bodyPost_ret (v := .tuple #[.int .i64 ((85 : Nat) : Int), .int .i64 ((170 : Nat) : Int)]) (by simp [results, Try.results69, go_sem]) rfl ?_
      exact ⟨85, 170, rfl, ⟨by omega, by omega⟩, Lib.hid (S1.out.mono (by omega)), hb1⟩
    by_cases hs1 : st = 1
    · subst hs1
      go_wp2
      refine bodyPost_ret (v := .tuple #[.int .i64 ((42 : Nat) : Int), .int .i64 ((85 : Nat) : Int)]) (by simp [results, Try.results69, go_sem]) rfl ?_
      exact ⟨42, 85, rfl, ⟨by omega, by omega⟩, Lib.hid (S1.out.mono (by omega)), hb1⟩
    by_cases hs5 : st = 5
    · subst hs5
      go_wp2
      refine bodyPost_ret (v := .tuple #[.int .i64 ((42 : Nat) : Int), .int .i64 ((85 : Nat) : Int)]) (by simp [results, Try.results69, go_sem]) rfl ?_
      exact ⟨42, 85, rfl, ⟨by omega, by omega⟩, Lib.hid (S1.out.mono (by omega)), hb1⟩
    have g0 : (st == 0) = false := by simp [hs0]
    have g1 : (st == 1) = false := by simp [hs1]
    have g2 : (st == 2) = false := by simp [h2]
    have g4 : (st == 4) = false := by simp [hs4]
    have g5 : (st == 5) = false := by simp [hs5]
    have g6 : (st == 6) = false := by simp [hs6]
    have g7 : (st == 7) = false := by simp [hs7]
    clear hs0 hs1 h2 hs4 hs5 hs6 hs7
    go_wp2_with fail
    refine (HN.out 256 (K + 1) w1 (by omega) (by omega) (by omega) S1.out).mono ?_
    rintro e w2 ⟨v2, rfl, hv2, S2, hb2⟩
    go_wp2_with fail
    refine (HN.out 256 (K + 1 + 1) w2 (by omega) (by omega) (by omega) S2.out).mono ?_
    rintro e w3 ⟨v3, rfl, hv3, S3, hb3⟩
    go_wp2
    refine bodyPost_ret (v := .tuple #[.int .i64 v2, .int .i64 v3]) (by simp [results, Try.results69, go_sem]) rfl ?_
    exact ⟨v2, v3, rfl, ⟨hv2, hv3⟩, S3, (hb1.trans hb2).trans hb3⟩
  · go_wp2_with fail
    refine (HN.out 256 (K + 1) w1 (by omega) (by omega) (by omega) S1.out).mono ?_
    rintro e w2 ⟨v2, rfl, hv2, S2, hb2⟩
    go_wp2_with fail
    refine (HN.out 256 (K + 1 + 1) w2 (by omega) (by omega) (by omega) S2.out).mono ?_
    rintro e w3 ⟨v3, rfl, hv3, S3, hb3⟩
    go_wp2
    refine bodyPost_ret (v := .tuple #[.int .i64 v2, .int .i64 v3]) (by simp [results, Try.results69, go_sem]) rfl ?_
    exact ⟨v2, v3, rfl, ⟨hv2, hv3⟩, S3, (hb1.trans hb2).trans hb3⟩


/-- A valid flash that lies in memory of its own from lo on. -/
structure FK (lo R D : Nat) (A : Option Addr) (c : Nat) (C : Option Addr) (d : Nat) (st : Int) (zs : List Int) (gs : List Bool) (w : World) : Prop where
  x : Box w D 26 #[.slice A 256 c, .slice C 16 d, .int .i64 st]
  y : Box w R 26 #[.slice none 0 0, .slice none 0 0, .int .i64 0]
  s : OwnI w lo w.heap.size A zs
  r : OwnB w lo w.heap.size C gs
theorem FK.btw {lo b R D : Nat} {A : Option Addr} {c : Nat} {C : Option Addr} {d : Nat} {st : Int} {zs : List Int} {gs : List Bool} {w w' : World} (h : FK lo R D A c C d st zs gs w) (hb : Btw b (b + 1) w w') (h1 : b < lo) (h2 : lo ≤ R) (h3 : lo ≤ D) : FK lo R D A c C d st zs gs w' :=
  ⟨h.x.btw hb (.inr (by omega)), h.y.btw hb (.inr (by omega)), (h.s.btw hb (.inr (by omega))).wideB (Nat.le_refl _) hb.size, (h.r.btw hb (.inr (by omega))).wide (Nat.le_refl _) hb.size⟩
theorem FK.step {lo R D : Nat} {A : Option Addr} {c : Nat} {C : Option Addr} {d : Nat} {st : Int} {zs : List Int} {gs : List Bool} {w w' : World} (h : FK lo R D A c C d st zs gs w) (hb : Below w.heap.size w w') : FK lo R D A c C d st zs gs w' :=
  ⟨h.x.step hb, h.y.step hb, (h.s.btw (Btw.of_below hb 0 0) (.inr (Nat.zero_le _))).wideB (Nat.le_refl _) hb.size, (h.r.btw (Btw.of_below hb 0 0) (.inr (Nat.zero_le _))).wide (Nat.le_refl _) hb.size⟩
theorem FK.store {lo R D : Nat} {A : Option Addr} {c : Nat} {C : Option Addr} {d : Nat} {st : Int} {zs : List Int} {gs : List Bool} {w : World} (h : FK lo R D A c C d st zs gs w) (hne : R ≠ D) {A2 : Option Addr} {c2 : Nat} {C2 : Option Addr} {d2 : Nat} {st2 : Int} {zs2 : List Int} {gs2 : List Bool} (S2 : OwnI w lo w.heap.size A2 zs2) (R2 : OwnB w lo w.heap.size C2 gs2) :
    FK lo R D A2 c2 C2 d2 st2 zs2 gs2 (((w.setCell ⟨D, 0, none⟩ (.slice A2 256 c2)).setCell ⟨D, 1, none⟩ (.slice C2 16 d2)).setCell ⟨D, 2, none⟩ (.int .i64 st2)) :=
  ⟨h.x.flash3 rfl _ _ _, h.y.far3 hne _ _ _, by rw [size3]; exact S2.far3 h.x _ _ _, by rw [size3]; exact R2.far3 h.x _ _ _⟩
theorem btw_below {lo hi B : Nat} {w w1 w2 : World} (h : Btw lo hi w w1) (hb : Below B w1 w2) (hB : w.heap.size ≤ B) : Btw lo hi w w2 :=
  ⟨hb.os.trans h.os, hb.tape.trans h.tape, hb.output.trans h.output, Nat.le_trans h.size hb.size, fun k hk ho => (hb.block k (Nat.lt_of_lt_of_le hk hB)).trans (h.block k hk ho)⟩
theorem ok_newFlash : okFlash newZ zG 0 = true := by decide +kernel
theorem ok_cycle {zs : List Int} {gs : List Bool} {st : Int} (h : okFlash zs gs st = true) (k v : Nat) (hv : v < 256) : okFlash (cycZ zs gs st k v) (cycG gs st k) (nextS st k v) = true := by
  obtain ⟨h1, h2, h3, h4⟩ := okFlash_len h
  exact okFlash_mk (by rw [cycZ_len]; exact h1) (by rw [cycG_len]; exact h2) (nextS_in _ _ _) (cycZ_range h4 hv)

/-- A drawn flash: valid, of its own. -/
def GivesFlashX (w : World) (R : World → Prop) (e : Ending) (w' : World) : Prop :=
  ∃ zs gs st A c C d, Hid (okFlash zs gs st = true) ∧ e = .returned (.agg #[.slice A 256 c, .slice C 16 d, .int .i64 st]) ∧ Hid (OwnI w' w.heap.size w'.heap.size A zs) ∧ Hid (OwnB w' w.heap.size w'.heap.size C gs) ∧ Hid (256 ≤ c) ∧ Hid (R w')
/-- What the loop keeps. -/
def FlashInv (w : World) (b R D : Nat) (A : Option Addr) (n c : Nat) (zs : List Nat) (K i : Nat) (wr : World) : Prop :=
  ∃ A' c' C' d' st zs' gs', Hid (FK w.heap.size R D A' c' C' d' st zs' gs' wr) ∧ Hid (okFlash zs' gs' st = true) ∧ Hid (Src wr b A n c zs (K + 1 + 3 * (40 - i))) ∧ Btw b (b + 1) w wr

set_option maxRecDepth 100000 in
set_option maxHeartbeats 4000000 in
theorem srcFlash (b : Nat) (A : Option Addr) (n c : Nat) (zs : List Nat) (K : Nat) (w : World) (hn : n ≤ maxLen) (hK : K ≤ 1000) (h : Src w b A n c zs K) :
    Calls Try.prog 36 #[.pointer (some ⟨b, 0, none⟩)] w (GivesFlashX w (fun w' => Src w' b A n c zs (K + 121) ∧ Btw b (b + 1) w w')) := by
  have hlt : b < w.heap.size := h.lt
  obtain ⟨W0, hW0⟩ : ∃ W0, W0 = w.alloc (.cells #[.slice none 0 0, .slice none 0 0, .int .i64 0] 26) := ⟨_, rfl⟩
  have hb0 : Below w.heap.size w W0 := by rw [hW0]; exact alloc_below _ _
  have HY0 : Hid (Box W0 w.heap.size 26 #[.slice none 0 0, .slice none 0 0, .int .i64 0]) := Lib.hid (by rw [hW0]; exact Box.new _ _ _)
  have HS0 := Lib.hid (h.below hb0 hlt)
  have HW0 := Lib.hid hW0
  have HSi := Lib.hid (fun W (h : Src W b A n c zs K) => srcSize b A n c zs K W hn h)
  clear h hW0 hn
  go_enter Try.func36, Try.ntmps36
  go_wp2_with fail
  rw [← HW0.out]
  refine (specNewFlash W0).mono ?_
  rintro e w1 ⟨A1, n1, c1, C1, m1, d1, rfl, L1, M1, S1, R1, hb1⟩
  obtain rfl : n1 = 256 := by have := L1.out; rw [newZ_len] at this; exact this.symm
  obtain rfl : m1 = 16 := by have := M1.out; rw [zG_len] at this; exact this.symm
  have hsz : w.heap.size + 1 ≤ w1.heap.size := by have := HY0.out.lt; have := hb1.size; omega
  have HB1 := Lib.hid (bt hb0 hb1)
  have HY1 := Lib.hid (HY0.out.step hb1)
  have HS1 := Lib.hid (HS0.out.below hb1 (by have := HY0.out.lt; omega))
  have hba := alloc_below w1 (.cells #[.slice A1 256 c1, .slice C1 16 d1, .int .i64 0] 26)
  have HFK : Hid (FK w.heap.size w.heap.size w1.heap.size A1 c1 C1 d1 0 newZ zG (w1.alloc (.cells #[.slice A1 256 c1, .slice C1 16 d1, .int .i64 0] 26))) := Lib.hid ⟨Box.new _ _ _, HY1.out.step hba, ((S1.out.btw (Btw.of_below hba 0 0) (.inr (Nat.zero_le _))).wideB hb0.size hba.size), ((R1.out.btw (Btw.of_below hba 0 0) (.inr (Nat.zero_le _))).wide hb0.size hba.size)⟩
  have HS2 := Lib.hid (HS1.out.below hba (by omega))
  have HB2 : Hid (Btw b (b + 1) w (w1.alloc (.cells #[.slice A1 256 c1, .slice C1 16 d1, .int .i64 0] 26))) := Lib.hid (Btw.of_below (bt HB1.out hba) b (b + 1))
  clear HY0 HS0 HW0 HY1 HS1 HB1 S1 R1 hba hb0 hb1 W0 L1 M1
  go_wp2_with fail
  generalize w1.alloc (.cells #[.slice A1 256 c1, .slice C1 16 d1, .int .i64 0] 26) = w2 at HFK HS2 HB2 ⊢
  refine (HSi.out w2 HS2.out).mono ?_
  rintro e w2' ⟨v0, rfl, ⟨hv0, hv1⟩, rfl⟩
  have HNx := Lib.hid (srcNext (v0 + 8) b A n c zs K w2 (by omega) (by omega) (by omega) HS2.out)
  rw [show ((v0 + 8 : Nat) : Int) = (v0 : Int) + 8 by omega] at HNx
  go_wp2_with fail
  refine HNx.out.mono ?_
  rintro e w3 ⟨v, rfl, hv, S3, hb3⟩
  have HFK3 := Lib.hid (HFK.out.btw hb3 hlt (Nat.le_refl _) (by omega))
  have HB3 := Lib.hid (HB2.out.trans hb3)
  obtain ⟨D, hD⟩ : ∃ D, D = w1.heap.size := ⟨_, rfl⟩
  rw [← hD] at HFK3 ⊢
  have hDl : w.heap.size + 1 ≤ D := by omega
  have hv38 : v ≤ 40 := by omega
  clear HFK HS2 HB2 hb3 hD hsz w1 w2 HSi hv0 hv1 hv HNx
  go_wp2
  go_loopw [4] (fun q wr => ∃ i : Nat, i ≤ 40 ∧ q = .int .i64 i ∧ FlashInv w b w.heap.size D A n c zs K i wr) (fun q _ => (intOf q).toNat)
  case atStart => exact ⟨v, hv38, rfl, A1, c1, C1, d1, 0, newZ, zG, HFK3, Lib.hid ok_newFlash, Lib.hid (S3.out.mono (by omega)), HB3.out⟩
  case round =>
    clear HFK3 HB3 S3 hv38
    obtain ⟨i, hi8, rfl, A', c', C', d', st, zs', gs', HF, HO, HS, hbw⟩ := hrel
    have f0 := HF.out.x.cell 0 rfl
    have f1 := HF.out.x.cell 1 rfl
    have f2 := HF.out.x.cell 2 rfl
    by_cases hi : 0 < i
    · have hi' : (0 : Int) < (i : Int) := by omega
      go_wp2_with fail
      refine (srcCycle st b A n c zs (K + 1 + 3 * (40 - i)) wr (by omega) HS.out).mono ?_
      rintro e w4 ⟨k, u, rfl, hku, S4, hb4⟩
      have F4 := Lib.hid (HF.out.btw hb4 hlt (Nat.le_refl _) (by omega))
      have HB4 := Lib.hid (hbw.trans hb4)
      clear HF HS hbw hb4 f0 f1 f2
      have f0 := F4.out.x.cell 0 rfl
      have f1 := F4.out.x.cell 1 rfl
      have f2 := F4.out.x.cell 2 rfl
      have HW := Lib.hid (l03Write0 A' C' c' d' k u st zs' gs' w4 hku.1 hku.2 (okFlash_len HO.out).2.2.1 (okFlash_len HO.out).2.2.2 ⟨⟨(okFlash_len HO.out).1, (okFlash_len HO.out).2.1⟩, F4.out.s.reads, F4.out.r.reads⟩)
      have HO5 := Lib.hid (ok_cycle HO.out k u hku.2)
      generalize cycZ zs' gs' st k u = zr at HW HO5
      generalize cycG gs' st k = gr at HW HO5
      generalize nextS st k u = sr at HW HO5
      clear HO
      go_wp2_with fail
      refine HW.out.mono ?_
      intro e w5 hW5
      have hsz4 : w.heap.size ≤ w4.heap.size := HB4.out.size
      have h5 : ∃ A5 c5 C5 d5, e = .returned (.agg #[.slice A5 256 c5, .slice C5 16 d5, .int .i64 sr]) ∧ OwnI w5 w.heap.size w5.heap.size A5 zr ∧ OwnB w5 w.heap.size w5.heap.size C5 gr ∧ Below w4.heap.size w4 w5 := by
        rcases hW5 with ⟨A5, n5, c5, C5, m5, d5, rfl, L5, M5, S5, R5, hb5⟩ | ⟨rfl, rfl, rfl, hb5⟩
        · obtain rfl : n5 = 256 := by have := L5.out; have := (okFlash_len HO5.out).1; omega
          obtain rfl : m5 = 16 := by have := M5.out; have := (okFlash_len HO5.out).2.1; omega
          exact ⟨A5, c5, C5, d5, rfl, S5.out.wideB hsz4 (Nat.le_refl _), R5.out.wide hsz4 (Nat.le_refl _), hb5⟩
        · exact ⟨A', c', C', d', rfl, (F4.out.step hb5).s, (F4.out.step hb5).r, hb5⟩
      clear hW5
      obtain ⟨A5, c5, C5, d5, rfl, S5, R5, hb5⟩ := h5
      have F5 := Lib.hid (F4.out.step hb5)
      have q1 : Below w.heap.size w5 (((w5.setCell ⟨D, 0, none⟩ (.slice A5 256 c5)).setCell ⟨D, 1, none⟩ (.slice C5 16 d5)).setCell ⟨D, 2, none⟩ (.int .i64 sr)) := (((Below.refl _ _).setCell (p := ⟨D, 0, none⟩) (by show w.heap.size ≤ D; omega) _).setCell (p := ⟨D, 1, none⟩) (by show w.heap.size ≤ D; omega) _).setCell (p := ⟨D, 2, none⟩) (by show w.heap.size ≤ D; omega) _
      have F6 := Lib.hid (F5.out.store (by omega) (c2 := c5) (d2 := d5) (st2 := sr) S5 R5)
      have S6 := Lib.hid ((S4.out.below hb5 (by omega)).below q1 hlt)
      have B6 := Lib.hid (btw_below (btw_below HB4.out hb5 hsz4) q1 (Nat.le_refl _))
      have g0 := F5.out.x.cell 0 rfl
      have g1 := F5.out.x.cell 1 rfl
      have g2 := F5.out.x.cell 2 rfl
      have g0z := F5.out.x.frozen 0
      have g1z := F5.out.x.frozen 1
      have g2z := F5.out.x.frozen 2
      clear f0 f1 f2 F4 F5 S4 HB4 S5 R5 hb5 q1 hsz4 HW
      go_wp2
      go_roundw
      case rel => exact ⟨i - 1, by omega, by go_num, A5, c5, C5, d5, sr, zr, gr, F6, HO5, Lib.hid (S6.out.mono (by omega)), B6.out⟩
      case measure => simp [intOf]; omega
    · have hi' : ¬ (0 : Int) < (i : Int) := by omega
      have HC := Lib.hid (l03OwnC A' C' 256 c' 16 d' st zs' gs' wr (okFlash_len HO.out).1 (okFlash_len HO.out).2.1 rfl rfl HF.out.s.reads HF.out.r.reads)
      go_wp2_with fail
      refine HC.out.mono ?_
      rintro e w2 ⟨A2, n2, c2, C2, m2, d2, rfl, L2, M2, S2, R2, KC, hb2⟩
      obtain rfl : n2 = 256 := by have := L2.out; have := (okFlash_len HO.out).1; omega
      obtain rfl : m2 = 16 := by have := M2.out; have := (okFlash_len HO.out).2.1; omega
      have Y2 := Lib.hid (HF.out.y.step hb2)
      have g0 := Y2.out.cell 0 rfl
      have g1 := Y2.out.cell 1 rfl
      have g2 := Y2.out.cell 2 rfl
      have g0z := Y2.out.frozen 0
      have g1z := Y2.out.frozen 1
      have g2z := Y2.out.frozen 2
      clear f0 f1 f2 HC
      go_wp2
      refine bodyPost_ret (v := .agg #[.slice A2 256 c2, .slice C2 16 d2, .int .i64 st]) (by simp [results, Try.results36, go_sem, g0, g1, g2]) rfl ?_
      have hszr : w.heap.size ≤ wr.heap.size := hbw.size
      have q1 : Below w.heap.size w2 (((w2.setCell ⟨w.heap.size, 0, none⟩ (.slice A2 256 c2)).setCell ⟨w.heap.size, 1, none⟩ (.slice C2 16 d2)).setCell ⟨w.heap.size, 2, none⟩ (.int .i64 st)) := (((Below.refl _ _).setCell (p := ⟨w.heap.size, 0, none⟩) (Nat.le_refl _) _).setCell (p := ⟨w.heap.size, 1, none⟩) (Nat.le_refl _) _).setCell (p := ⟨w.heap.size, 2, none⟩) (Nat.le_refl _) _
      exact ⟨zs', gs', st, A2, c2, C2, d2, HO, rfl, Lib.hid (by rw [size3]; exact (S2.out.far3 Y2.out _ _ _).wideB hszr (Nat.le_refl _)), Lib.hid (by rw [size3]; exact (R2.out.far3 Y2.out _ _ _).wide hszr (Nat.le_refl _)), KC, Lib.hid ⟨((HS.out.below hb2 (by omega)).below q1 hlt).mono (by omega), btw_below (btw_below hbw hb2 hszr) q1 (Nat.le_refl _)⟩⟩
end Go.Proofs.Ythobepmlopegbaa

/- What the law on write cycles uses: FlashDrawn, CycleOf, sameFlash; what a cycle does to a block. -/
namespace Go.Proofs.Ythobepmlopegbaa
open Go.RowKit

theorem ByB.step {w w' : World} {A : Option Addr} {zs : List Nat} (h : ByB w w.heap.size A zs) (hb : Below w.heap.size w w') : ByB w' w'.heap.size A zs := fun i hi => by
  obtain ⟨b, off, e, q1, q2, q3⟩ := h i hi
  exact ⟨b, off, e, Nat.lt_of_lt_of_le q1 hb.size, (hb.cell q1).trans q2, q3⟩

set_option maxRecDepth 100000 in
set_option maxHeartbeats 4000000 in
theorem flashDrawn (A : Option Addr) (n c : Nat) (zs : List Nat) (w : World) (hn : n ≤ maxLen) (hl : zs.length = n) (h : ByB w w.heap.size A zs) :
    Calls Try.prog 10 #[.slice A n c] w (GivesFlashX w (fun w' => Below w.heap.size w w')) := by
  obtain ⟨W0, hW0⟩ : ∃ W0, W0 = w.alloc (.cells #[.slice none 0 0, .slice none 0 0, .int .i64 0] 26) := ⟨_, rfl⟩
  have hb0 : Below w.heap.size w W0 := by rw [hW0]; exact alloc_below _ _
  have HY0 : Hid (Box W0 w.heap.size 26 #[.slice none 0 0, .slice none 0 0, .int .i64 0]) := Lib.hid (by rw [hW0]; exact Box.new _ _ _)
  have HC := Lib.hid (srcNew A n c zs W0 hn hl (h.step hb0))
  have HF := Lib.hid (fun W (h : Src W W0.heap.size A n c zs 0) => srcFlash W0.heap.size A n c zs 0 W hn (by omega) h)
  have HW0 := Lib.hid hW0
  clear hn hl h hW0
  go_enter Try.func10, Try.ntmps10
  go_wp2_with fail
  rw [← HW0.out]
  refine HC.out.mono ?_
  rintro e w1 ⟨rfl, S1, hb1⟩
  have HY1 := Lib.hid (HY0.out.step hb1)
  have hsz : w.heap.size + 1 ≤ W0.heap.size := HY0.out.lt
  go_wp2_with fail
  refine (HF.out w1 S1.out).mono ?_
  rintro e w2 ⟨zr, gr, st, A2, c2, C2, d2, HO, rfl, S2, R2, KC, B2⟩
  have Y2 := Lib.hid (HY1.out.btw B2.out.2 (.inl (by omega)))
  have HB2 := Lib.hid ((hb0.trans (hb1.mono (by omega))).trans ((B2.out.2.below (hb1.size)).mono (by omega)))
  have hsz1 : W0.heap.size ≤ w1.heap.size := hb1.size
  have g0 := Y2.out.cell 0 rfl
  have g1 := Y2.out.cell 1 rfl
  have g2 := Y2.out.cell 2 rfl
  have g0z := Y2.out.frozen 0
  have g1z := Y2.out.frozen 1
  have g2z := Y2.out.frozen 2
  clear HC HY0 HY1 S1 B2
  go_wp2
  refine bodyPost_ret (v := .agg #[.slice A2 256 c2, .slice C2 16 d2, .int .i64 st]) (by simp [results, Try.results10, go_sem, g0, g1, g2]) rfl ?_
  exact ⟨zr, gr, st, A2, c2, C2, d2, HO, rfl, Lib.hid ((S2.out.far3 Y2.out _ _ _).wideB (by omega) (by rw [size3]; exact Nat.le_refl _)), Lib.hid ((R2.out.far3 Y2.out _ _ _).wide (by omega) (by rw [size3]; exact Nat.le_refl _)), KC, Lib.hid (below3 HB2.out (Nat.le_refl _) _ _ _)⟩

/-- p holds from a on, n times. -/
def pre (p : Nat → Bool) (a : Nat) : Nat → Bool
  | 0 => true
  | n + 1 => pre p a n && p (a + n)
theorem pre_all {p : Nat → Bool} {a n : Nat} (h : ∀ i, i < n → p (a + i) = true) : pre p a n = true := by
  induction n with
  | zero => rfl
  | succ n ih => unfold pre; rw [ih (fun i hi => h i (by omega)), h n (by omega)]; rfl
theorem pre_false {p : Nat → Bool} {a n : Nat} (h : pre p a n = false) : pre p a (n + 1) = false := by unfold pre; rw [h]; rfl
theorem pre_next {p : Nat → Bool} {a n : Nat} (h : pre p a n = true) : pre p a (n + 1) = p (a + n) := by rw [pre, h, Bool.true_and]
def eraP (x : List Int) (i : Nat) : Bool := x.getD i 0 == 255
def felP (x z : List Int) (i : Nat) : Bool := (((x.getD i 0).toNat &&& (z.getD i 0).toNat : Nat) : Int) == x.getD i 0
def samP (x z : List Int) (i : Nat) : Bool := x.getD i 0 == z.getD i 0

theorem fel_same {x z : List Int} {i : Nat} (h : x.getD i 0 = z.getD i 0) (h0 : 0 ≤ x.getD i 0) : felP x z i = true := by
  unfold felP
  rw [← h, Nat.and_self, Int.toNat_of_nonneg h0]
  simp
theorem getD_mem {z : List Int} {i : Nat} (h : i < z.length) : z.getD i 0 ∈ z := by
  rw [List.getD_eq_getElem?_getD, List.getElem?_eq_getElem h]; exact List.getElem_mem _
theorem progL_at (zs : List Int) (gs : List Bool) (k v i : Nat) (hi : i < zs.length) : (progL zs gs k v).getD i 0 = if i = k ∧ gs.getD (k / 16) false = false then (((zs.getD k 0).toNat &&& v : Nat) : Int) else zs.getD i 0 := by
  unfold progL
  by_cases hg : gs.getD (k / 16) false = true
  · rw [if_pos hg, if_neg (by rw [hg]; simp)]
  · rw [if_neg hg]
    by_cases e : i = k
    · subst e
      rw [if_pos ⟨rfl, by simpa using hg⟩, List.getD_eq_getElem?_getD, List.getElem?_set_self hi]
      rfl
    · rw [if_neg (fun q => e q.1), List.getD_eq_getElem?_getD, List.getElem?_set_ne (fun q => e q.symm), ← List.getD_eq_getElem?_getD]
theorem eraseL_at (zs : List Int) (gs : List Bool) (b i : Nat) (hi : i < zs.length) : (eraseL zs gs b).getD i 0 = if (b * 16 ≤ i ∧ i < b * 16 + 16) ∧ gs.getD b false = false then 255 else zs.getD i 0 := by
  unfold eraseL
  by_cases hg : gs.getD b false = true
  · rw [if_pos hg, if_neg (by rw [hg]; simp)]
  · rw [if_neg hg, fillR_at _ _ _ _ hi]
    have hg' : gs.getD b false = false := by simpa using hg
    by_cases q : b * 16 ≤ i ∧ i < b * 16 + 16
    · rw [if_pos q, if_pos ⟨q, hg'⟩]
    · rw [if_neg q, if_neg (fun e => q e.1)]
theorem eraseN_at (zs : List Int) (gs : List Bool) (i : Nat) (hi : i < zs.length) : ∀ n, (eraseN zs gs n).getD i 0 = if i / 16 < n ∧ gs.getD (i / 16) false = false then 255 else zs.getD i 0
  | 0 => by rw [if_neg (by omega)]; rfl
  | n + 1 => by
    rw [eraseN, eraseL_at _ _ _ _ (by rw [eraseN_len]; exact hi), eraseN_at zs gs i hi n]
    by_cases q : n * 16 ≤ i ∧ i < n * 16 + 16
    · have e : i / 16 = n := by omega
      rw [e]
      by_cases g : gs.getD n false = false
      · rw [if_pos ⟨q, g⟩, if_pos ⟨by omega, g⟩]
      · rw [if_neg (fun h => g h.2), if_neg (by omega), if_neg (fun h => g h.2)]
    · rw [if_neg (fun h => q h.1)]
      by_cases g : i / 16 < n ∧ gs.getD (i / 16) false = false
      · rw [if_pos g, if_pos ⟨by omega, g.2⟩]
      · rw [if_neg g, if_neg (fun h => g ⟨by omega, h.2⟩)]

/-- What a cycle does to a cell: it is as it was, or its block is not protected and it fell (by programming), or its whole block is erased. -/
theorem cyc_block (zs : List Int) (gs : List Bool) (st : Int) (k v b : Nat) (hz : zs.length = 256) (hzs : ∀ z ∈ zs, 0 ≤ z ∧ z ≤ 255) (hb : b < 16) :
    (∀ i, i < 16 → felP (cycZ zs gs st k v) zs (b * 16 + i) = true) ∧ (gs.getD b false = true → ∀ i, i < 16 → samP (cycZ zs gs st k v) zs (b * 16 + i) = true) ∨ gs.getD b false = false ∧ ∀ i, i < 16 → eraP (cycZ zs gs st k v) (b * 16 + i) = true := by
  have same : ∀ x : List Int, (∀ i, i < 16 → x.getD (b * 16 + i) 0 = zs.getD (b * 16 + i) 0) → (∀ i, i < 16 → felP x zs (b * 16 + i) = true) ∧ (gs.getD b false = true → ∀ i, i < 16 → samP x zs (b * 16 + i) = true) := fun x hx =>
    ⟨fun i hi => fel_same (hx i hi) (by rw [hx i hi]; exact (hzs _ (getD_mem (by omega))).1), fun _ i hi => by unfold samP; rw [hx i hi]; simp⟩
  unfold cycZ
  split
  · left
    constructor
    · intro i hi
      have hm := hzs _ (getD_mem (show b * 16 + i < zs.length by omega))
      by_cases q : b * 16 + i = k ∧ gs.getD (k / 16) false = false
      · unfold felP
        rw [progL_at _ _ _ _ _ (by omega), if_pos q, ← q.1]
        have : ((((zs.getD (b * 16 + i) 0).toNat &&& v : Nat) : Int).toNat &&& (zs.getD (b * 16 + i) 0).toNat) = (zs.getD (b * 16 + i) 0).toNat &&& v := by
          rw [Int.toNat_natCast, Nat.and_comm, ← Nat.and_assoc, Nat.and_self]
        rw [this]; simp
      · exact fel_same (by rw [progL_at _ _ _ _ _ (by omega), if_neg q]) (by rw [progL_at _ _ _ _ _ (by omega), if_neg q]; exact hm.1)
    · intro hg i hi
      unfold samP
      rw [progL_at _ _ _ _ _ (by omega), if_neg]
      · simp
      · rintro ⟨rfl, q⟩
        rw [show (b * 16 + i) / 16 = b by omega, hg] at q
        cases q
  · split
    · unfold wipeZ
      split
      · split
        · by_cases g : gs.getD b false = false
          · right
            refine ⟨g, fun i hi => ?_⟩
            unfold eraP
            rw [eraseN_at _ _ _ (by omega), if_pos ⟨by omega, by rw [show (b * 16 + i) / 16 = b by omega]; exact g⟩]
            rfl
          · left
            exact same _ (fun i hi => by rw [eraseN_at _ _ _ (by omega), if_neg (fun q => g (by have := q.2; rwa [show (b * 16 + i) / 16 = b by omega] at this))])
        · left; exact same _ (fun _ _ => rfl)
      · split
        · by_cases g : b = k / 16 ∧ gs.getD b false = false
          · right
            refine ⟨g.2, fun i hi => ?_⟩
            unfold eraP
            rw [← g.1, eraseL_at _ _ _ _ (by omega), if_pos ⟨by omega, g.2⟩]
            rfl
          · left
            exact same _ (fun i hi => by rw [eraseL_at _ _ _ _ (by omega), if_neg (fun q => g ⟨by omega, by have := q.2; rwa [show k / 16 = b by omega] at this⟩)])
        · left; exact same _ (fun _ _ => rfl)
    · left; exact same _ (fun _ _ => rfl)
theorem cyc_guard (gs : List Bool) (st : Int) (k b : Nat) (h : gs.getD b false = true) (hb : b < gs.length) : (cycG gs st k).getD b false = true := by
  unfold cycG
  split
  · by_cases e : b = k / 16
    · subst e; rw [List.getD_eq_getElem?_getD, List.getElem?_set_self hb]; rfl
    · rw [List.getD_eq_getElem?_getD, List.getElem?_set_ne (fun q => e q.symm), ← List.getD_eq_getElem?_getD]; exact h
  · exact h
end Go.Proofs.Ythobepmlopegbaa

/- Contracts of slices.Equal over []int and []bool, and of both SameFlash. -/
namespace Go.Proofs.Ythobepmlopegbaa
open Go.RowKit

set_option maxRecDepth 100000 in
set_option maxHeartbeats 1000000 in
theorem equalI (A A' : Option Addr) (n n' c c' : Nat) (ss ss' : List Int) (w : World) (hl : ss.length = n) (hl' : ss'.length = n') (hn : n ≤ maxLen) (hn' : n' ≤ maxLen)
    (h : IntL w A ss) (h' : IntL w A' ss') :
    Calls Try.prog 75 #[.slice A n c, .slice A' n' c'] w fun e w' => e = .returned (.bool (decide (ss = ss'))) ∧ Below w.heap.size w w' := by
  unfold maxLen at hn hn'
  have HL := Lib.hid hl
  have HL' := Lib.hid hl'
  have H := Lib.hid h
  have H' := Lib.hid h'
  clear hl hl' h h'
  by_cases hne : n = n'
  · subst hne
    have hb : ((n : Int) != (n : Int)) = false := by simp
    go_enter Try.func75, Try.ntmps75
    go_wp2
    go_loopw [13] (fun i wr => ∃ k : Nat, k ≤ n ∧ i = .int .i64 k ∧ Hid (ss.take k = ss'.take k) ∧ Below w.heap.size w wr) (fun i _ => n - (intOf i).toNat)
    case atStart => exact ⟨0, Nat.zero_le _, rfl, Lib.hid rfl, Below.refl _ _⟩
    case round =>
      obtain ⟨k, hk, rfl, HT, hbw⟩ := hrel
      by_cases hlt : k < n
      · obtain ⟨b, off, rfl, hc⟩ := (H.out.below hbw) k (by rw [HL.out]; exact hlt)
        obtain ⟨b', off', rfl, hc'⟩ := (H'.out.below hbw) k (by rw [HL'.out]; exact hlt)
        have HN := Lib.hid (fun e => take_next 0 HT.out (by rw [HL.out]; exact hlt) (by rw [HL'.out]; exact hlt) e)
        have HX := Lib.hid (fun e => ne_of_at (l := ss) (m := ss') (k := k) 0 e)
        generalize ss.getD k 0 = x at hc HN HX
        generalize ss'.getD k 0 = y at hc' HN HX
        have hi : (k : Int) < (n : Int) := by omega
        by_cases hE : x = y
        · have hq1 : (x == y) = true := by simp [hE]
          have hq2 : (x != y) = false := by simp [hE]
          have HE := Lib.hid hE
          clear hE
          go_wp2
          go_quiet (fail)
          go_wp2
          go_roundw
          case rel => exact ⟨k + 1, by omega, by go_num, Lib.hid (HN.out HE.out), below_drewN hbw _⟩
          case measure => simp [intOf]; omega
        · have hq1 : (x == y) = false := by simp [hE]
          have hq2 : (x != y) = true := by simp [hE]
          have HE := Lib.hid hE
          clear hE
          go_wp2
          go_quiet (fail)
          go_wp2
          go_ret
          exact ⟨ret_bool (by simp [HX.out HE.out]), below_drewN hbw _⟩
      · go_wp2
        go_ret
        exact ⟨ret_bool (by simp [take_all HT.out (by rw [HL.out]; omega) (by rw [HL'.out]; omega)]), hbw⟩
  · have hb : ((n : Int) != (n' : Int)) = true := by simp; omega
    have HF : Hid (decide (ss = ss') = false) := Lib.hid (by simp; intro e; apply hne; rw [← HL.out, ← HL'.out, e])
    clear hne
    go_enter Try.func75, Try.ntmps75
    go_wp2
    go_ret
    exact ⟨ret_bool HF.out.symm, Below.refl _ _⟩

set_option maxRecDepth 100000 in
set_option maxHeartbeats 1000000 in
theorem equalB (A A' : Option Addr) (n n' c c' : Nat) (ss ss' : List Bool) (w : World) (hl : ss.length = n) (hl' : ss'.length = n') (hn : n ≤ maxLen) (hn' : n' ≤ maxLen)
    (h : BoolL w A ss) (h' : BoolL w A' ss') :
    Calls Try.prog 76 #[.slice A n c, .slice A' n' c'] w fun e w' => e = .returned (.bool (decide (ss = ss'))) ∧ Below w.heap.size w w' := by
  unfold maxLen at hn hn'
  have HL := Lib.hid hl
  have HL' := Lib.hid hl'
  have H := Lib.hid h
  have H' := Lib.hid h'
  clear hl hl' h h'
  by_cases hne : n = n'
  · subst hne
    have hb : ((n : Int) != (n : Int)) = false := by simp
    go_enter Try.func76, Try.ntmps76
    go_wp2
    go_loopw [13] (fun i wr => ∃ k : Nat, k ≤ n ∧ i = .int .i64 k ∧ Hid (ss.take k = ss'.take k) ∧ Below w.heap.size w wr) (fun i _ => n - (intOf i).toNat)
    case atStart => exact ⟨0, Nat.zero_le _, rfl, Lib.hid rfl, Below.refl _ _⟩
    case round =>
      obtain ⟨k, hk, rfl, HT, hbw⟩ := hrel
      by_cases hlt : k < n
      · obtain ⟨b, off, rfl, hc⟩ := (H.out.below hbw) k (by rw [HL.out]; exact hlt)
        obtain ⟨b', off', rfl, hc'⟩ := (H'.out.below hbw) k (by rw [HL'.out]; exact hlt)
        have HN := Lib.hid (fun e => take_next false HT.out (by rw [HL.out]; exact hlt) (by rw [HL'.out]; exact hlt) e)
        have HX := Lib.hid (fun e => ne_of_at (l := ss) (m := ss') (k := k) false e)
        generalize ss.getD k false = x at hc HN HX
        generalize ss'.getD k false = y at hc' HN HX
        have hi : (k : Int) < (n : Int) := by omega
        by_cases hE : x = y
        · have hq1 : (x == y) = true := by simp [hE]
          have hq2 : (x != y) = false := by simp [hE]
          have HE := Lib.hid hE
          clear hE
          go_wp2
          go_quiet (fail)
          go_wp2
          go_roundw
          case rel => exact ⟨k + 1, by omega, by go_num, Lib.hid (HN.out HE.out), below_drewN hbw _⟩
          case measure => simp [intOf]; omega
        · have hq1 : (x == y) = false := by simp [hE]
          have hq2 : (x != y) = true := by simp [hE]
          have HE := Lib.hid hE
          clear hE
          go_wp2
          go_quiet (fail)
          go_wp2
          go_ret
          exact ⟨ret_bool (by simp [HX.out HE.out]), below_drewN hbw _⟩
      · go_wp2
        go_ret
        exact ⟨ret_bool (by simp [take_all HT.out (by rw [HL.out]; omega) (by rw [HL'.out]; omega)]), hbw⟩
  · have hb : ((n : Int) != (n' : Int)) = true := by simp; omega
    have HF : Hid (decide (ss = ss') = false) := Lib.hid (by simp; intro e; apply hne; rw [← HL.out, ← HL'.out, e])
    clear hne
    go_enter Try.func76, Try.ntmps76
    go_wp2
    go_ret
    exact ⟨ret_bool HF.out.symm, Below.refl _ _⟩

def sameFl (zs zs' : List Int) (gs gs' : List Bool) (st st' : Int) : Bool := decide (zs = zs') && (decide (gs = gs') && decide (st = st'))

/-- The same bytes and the same protection. -/
def sameArr (zs zs' : List Int) (gs gs' : List Bool) : Bool := decide (zs = zs') && decide (gs = gs')

set_option maxRecDepth 100000 in
set_option maxHeartbeats 1000000 in
theorem sameArray (A A' C C' : Option Addr) (n n' m m' c c' d d' : Nat) (st st' : Int) (zs zs' : List Int) (gs gs' : List Bool) (w : World)
    (hl : zs.length = n) (hl' : zs'.length = n') (hm : gs.length = m) (hm' : gs'.length = m') (hn : n ≤ maxLen) (hn' : n' ≤ maxLen) (gn : m ≤ maxLen) (gn' : m' ≤ maxLen)
    (h : IntL w A zs) (h' : IntL w A' zs') (g : BoolL w C gs) (g' : BoolL w C' gs') :
    Calls Try.prog 45 #[.agg #[.slice A n c, .slice C m d, .int .i64 st], .agg #[.slice A' n' c', .slice C' m' d', .int .i64 st']] w fun e w' => e = .returned (.bool (sameArr zs zs' gs gs')) ∧ Below w.heap.size w w' := by
  have H1 := Lib.hid (fun W hb => equalI A A' n n' c c' zs zs' W hl hl' hn hn' (h.below hb) (h'.below hb))
  have H2 := Lib.hid (fun W hb => equalB C C' m m' d d' gs gs' W hm hm' gn gn' (g.below hb) (g'.below hb))
  obtain ⟨W0, hW0⟩ : ∃ W0, W0 = ((w.alloc (.cells #[.slice A n c, .slice C m d, .int .i64 st] 26)).alloc (.cells #[.slice A' n' c', .slice C' m' d', .int .i64 st'] 26)) := ⟨_, rfl⟩
  have hb0 : Below w.heap.size w W0 := by rw [hW0]; exact ((Below.refl _ _).alloc (Nat.le_refl _) _).alloc (by simp) _
  have X0 : Hid (Box W0 w.heap.size 26 #[.slice A n c, .slice C m d, .int .i64 st]) := Lib.hid (by rw [hW0]; exact (Box.new _ _ _).alloc _)
  have Y0 : Hid (Box W0 (w.heap.size + 1) 26 #[.slice A' n' c', .slice C' m' d', .int .i64 st']) := Lib.hid (by rw [hW0]; simpa using Box.new (w.alloc (.cells #[.slice A n c, .slice C m d, .int .i64 st] 26)) 26 #[.slice A' n' c', .slice C' m' d', .int .i64 st'])
  have HW0 := Lib.hid hW0
  have HR : Hid (sameArr zs zs' gs gs' = (decide (zs = zs') && decide (gs = gs'))) := Lib.hid rfl
  generalize sameArr zs zs' gs gs' = r at HR
  generalize decide (zs = zs') = q1 at H1 HR
  generalize decide (gs = gs') = q2 at H2 HR
  clear hl hl' hm hm' hn hn' gn gn' h h' g g' hW0
  go_enter Try.func45, Try.ntmps45
  go_wp2_with fail
  rw [← HW0.out]
  refine (H1.out _ hb0).mono ?_
  rintro e w1 ⟨rfl, hb1⟩
  have X1 := Lib.hid (X0.out.step hb1)
  have Y1 := Lib.hid (Y0.out.step hb1)
  have f1 := X1.out.cell 1 rfl
  have f2 := Y1.out.cell 1 rfl
  have hb := bt hb0 hb1
  clear X0 Y0 HW0 hb0 hb1 H1
  cases q1
  · go_wp2
    go_ret
    exact ⟨ret_bool (by rw [HR.out]; rfl), hb⟩
  · go_wp2_with fail
    refine (H2.out _ hb).mono ?_
    rintro e w2 ⟨rfl, hb2⟩
    have hb3 := bt hb hb2
    clear X1 Y1 H2 f1 f2 hb hb2
    go_wp2
    go_ret
    exact ⟨ret_bool (by rw [HR.out]; rfl), hb3⟩

set_option maxRecDepth 100000 in
set_option maxHeartbeats 1000000 in
theorem implSame (A A' C C' : Option Addr) (n n' m m' c c' d d' : Nat) (st st' : Int) (zs zs' : List Int) (gs gs' : List Bool) (w : World)
    (hl : zs.length = n) (hl' : zs'.length = n') (hm : gs.length = m) (hm' : gs'.length = m') (hn : n ≤ maxLen) (hn' : n' ≤ maxLen) (gn : m ≤ maxLen) (gn' : m' ≤ maxLen)
    (h : IntL w A zs) (h' : IntL w A' zs') (g : BoolL w C gs) (g' : BoolL w C' gs') :
    Calls Try.prog 23 #[.agg #[.slice A n c, .slice C m d, .int .i64 st], .agg #[.slice A' n' c', .slice C' m' d', .int .i64 st']] w fun e w' => e = .returned (.bool (sameFl zs zs' gs gs' st st')) ∧ Below w.heap.size w w' := by
  have H1 := Lib.hid (fun W hb => sameArray A A' C C' n n' m m' c c' d d' st st' zs zs' gs gs' W hl hl' hm hm' hn hn' gn gn' (h.below hb) (h'.below hb) (g.below hb) (g'.below hb))
  obtain ⟨W0, hW0⟩ : ∃ W0, W0 = ((w.alloc (.cells #[.slice A n c, .slice C m d, .int .i64 st] 26)).alloc (.cells #[.slice A' n' c', .slice C' m' d', .int .i64 st'] 26)) := ⟨_, rfl⟩
  have hb0 : Below w.heap.size w W0 := by rw [hW0]; exact ((Below.refl _ _).alloc (Nat.le_refl _) _).alloc (by simp) _
  have X0 : Hid (Box W0 w.heap.size 26 #[.slice A n c, .slice C m d, .int .i64 st]) := Lib.hid (by rw [hW0]; exact (Box.new _ _ _).alloc _)
  have Y0 : Hid (Box W0 (w.heap.size + 1) 26 #[.slice A' n' c', .slice C' m' d', .int .i64 st']) := Lib.hid (by rw [hW0]; simpa using Box.new (w.alloc (.cells #[.slice A n c, .slice C m d, .int .i64 st] 26)) 26 #[.slice A' n' c', .slice C' m' d', .int .i64 st'])
  have HW0 := Lib.hid hW0
  have HR : Hid (sameFl zs zs' gs gs' st st' = (sameArr zs zs' gs gs' && decide (st = st'))) := Lib.hid (by unfold sameFl sameArr; rw [Bool.and_assoc])
  generalize sameFl zs zs' gs gs' st st' = r at HR
  generalize sameArr zs zs' gs gs' = q1 at H1 HR
  clear hl hl' hm hm' hn hn' gn gn' h h' g g' hW0
  go_enter Try.func23, Try.ntmps23
  go_wp2_with fail
  rw [← HW0.out]
  refine (H1.out _ hb0).mono ?_
  rintro e w1 ⟨rfl, hb1⟩
  have k1 := (X0.out.step hb1).cell 2 rfl
  have k2 := (Y0.out.step hb1).cell 2 rfl
  have hb := bt hb0 hb1
  clear X0 Y0 HW0 hb0 hb1 H1
  cases q1
  · go_wp2
    go_ret
    exact ⟨ret_bool (by rw [HR.out]; rfl), hb⟩
  · by_cases hE : st = st'
    · have hq : (st == st') = true := by simp [hE]
      have HE := Lib.hid hE
      clear hE
      go_wp2
      go_ret
      exact ⟨ret_bool (by rw [HR.out]; simp [HE.out]), hb⟩
    · have hq : (st == st') = false := by simp [hE]
      have HE := Lib.hid hE
      clear hE
      go_wp2
      go_ret
      exact ⟨ret_bool (by rw [HR.out]; simp [HE.out]), hb⟩

set_option maxRecDepth 100000 in
set_option maxHeartbeats 4000000 in
theorem specSame (A A' C C' : Option Addr) (n n' m m' c c' d d' : Nat) (st st' : Int) (zs zs' : List Int) (gs gs' : List Bool) (w : World)
    (hl : zs.length = n) (hl' : zs'.length = n') (hm : gs.length = m) (hm' : gs'.length = m') (hn : n ≤ maxLen) (hn' : n' ≤ maxLen) (gn : m ≤ maxLen) (gn' : m' ≤ maxLen)
    (h : IntL w A zs) (h' : IntL w A' zs') (g : BoolL w C gs) (g' : BoolL w C' gs') :
    Calls Try.prog 21 #[.agg #[.slice A n c, .slice C m d, .int .i64 st], .agg #[.slice A' n' c', .slice C' m' d', .int .i64 st']] w fun e w' => e = .returned (.bool (sameFl zs zs' gs gs' st st')) ∧ Below w.heap.size w w' := by
  unfold maxLen at hn hn' gn gn'
  have HL := Lib.hid (And.intro hl hl')
  have HM := Lib.hid (And.intro hm hm')
  have H := Lib.hid (And.intro h h')
  have G := Lib.hid (And.intro g g')
  obtain ⟨W0, hW0⟩ : ∃ W0, W0 = ((w.alloc (.cells #[.slice A n c, .slice C m d, .int .i64 st] 26)).alloc (.cells #[.slice A' n' c', .slice C' m' d', .int .i64 st'] 26)) := ⟨_, rfl⟩
  have hb0 : Below w.heap.size w W0 := by rw [hW0]; exact ((Below.refl _ _).alloc (Nat.le_refl _) _).alloc (by simp) _
  have X0 : Hid (Box W0 w.heap.size 26 #[.slice A n c, .slice C m d, .int .i64 st]) := Lib.hid (by rw [hW0]; exact (Box.new _ _ _).alloc _)
  have Y0 : Hid (Box W0 (w.heap.size + 1) 26 #[.slice A' n' c', .slice C' m' d', .int .i64 st']) := Lib.hid (by rw [hW0]; simpa using Box.new (w.alloc (.cells #[.slice A n c, .slice C m d, .int .i64 st] 26)) 26 #[.slice A' n' c', .slice C' m' d', .int .i64 st'])
  have HW0 := Lib.hid hW0
  have HR : Hid (sameFl zs zs' gs gs' st st' = (decide (zs = zs') && (decide (gs = gs') && decide (st = st')))) := Lib.hid rfl
  generalize sameFl zs zs' gs gs' st st' = r at HR
  clear hl hl' hm hm' h h' g g' hW0
  by_cases hS : st = st'
  · subst hS
    have s0 : (st != st) = false := by simp
    by_cases hN : n = n'
    · subst hN
      have s1 : ((n : Int) != (n : Int)) = false := by simp
      by_cases hM : m = m'
      · subst hM
        have s2 : ((m : Int) != (m : Int)) = false := by simp
        go_enter Try.func21, Try.ntmps21
        go_wp2
        rw [← HW0.out]
        clear HW0
        go_loopw [5] (fun i wr => ∃ k : Nat, k ≤ n ∧ i = .int .i64 k ∧ Hid (zs.take k = zs'.take k) ∧ Below w.heap.size w wr ∧ Hid (Box wr w.heap.size 26 #[.slice A n c, .slice C m d, .int .i64 st]) ∧ Hid (Box wr (w.heap.size + 1) 26 #[.slice A' n c', .slice C' m d', .int .i64 st])) (fun i _ => n - (intOf i).toNat)
        case atStart => exact ⟨0, Nat.zero_le _, rfl, Lib.hid rfl, hb0, X0, Y0⟩
        case round =>
          clear hb0 X0 Y0
          obtain ⟨k, hk, rfl, HT, hbw, X, Y⟩ := hrel
          have f0 := X.out.cell 0 rfl
          have f1 := X.out.cell 1 rfl
          have e0 := Y.out.cell 0 rfl
          have e1 := Y.out.cell 1 rfl
          by_cases hlt : k < n
          · obtain ⟨b, off, rfl, hc⟩ := (H.out.1.below hbw) k (by rw [HL.out.1]; exact hlt)
            obtain ⟨b', off', rfl, hc'⟩ := (H.out.2.below hbw) k (by rw [HL.out.2]; exact hlt)
            have HN := Lib.hid (fun e => take_next 0 HT.out (by rw [HL.out.1]; exact hlt) (by rw [HL.out.2]; exact hlt) e)
            have HX := Lib.hid (fun e => ne_of_at (l := zs) (m := zs') (k := k) 0 e)
            generalize zs.getD k 0 = x at hc HN HX
            generalize zs'.getD k 0 = y at hc' HN HX
            have hi : (k : Int) < (n : Int) := by omega
            by_cases hE : x = y
            · have hq1 : (x == y) = true := by simp [hE]
              have hq2 : (x != y) = false := by simp [hE]
              have HE := Lib.hid hE
              clear hE
              go_wp2
              go_quiet (fail)
              go_wp2
              go_roundw
              case rel => exact ⟨k + 1, by omega, by go_num, Lib.hid (HN.out HE.out), below_drewN hbw _, Lib.hid (X.out.drewN _), Lib.hid (Y.out.drewN _)⟩
              case measure => simp [intOf]; omega
            · have hq1 : (x == y) = false := by simp [hE]
              have hq2 : (x != y) = true := by simp [hE]
              have HE := Lib.hid hE
              clear hE
              go_wp2
              go_quiet (fail)
              go_wp2
              go_ret
              exact ⟨ret_bool (by rw [HR.out]; simp [HX.out HE.out]), below_drewN hbw _⟩
          · have HZ := Lib.hid (take_all HT.out (by rw [HL.out.1]; omega) (by rw [HL.out.2]; omega))
            clear HT
            go_wp2
            clear f0 e0 f1 e1
            go_loopw [6] (fun i wr => ∃ k : Nat, k ≤ m ∧ i = .int .i64 k ∧ Hid (gs.take k = gs'.take k) ∧ Below w.heap.size w wr ∧ Hid (Box wr w.heap.size 26 #[.slice A n c, .slice C m d, .int .i64 st]) ∧ Hid (Box wr (w.heap.size + 1) 26 #[.slice A' n c', .slice C' m d', .int .i64 st])) (fun i _ => m - (intOf i).toNat)
            case atStart => exact ⟨0, Nat.zero_le _, rfl, Lib.hid rfl, hbw, X, Y⟩
            case round =>
              clear hbw X Y
              obtain ⟨j, hj, rfl, HT, hbw, X, Y⟩ := hrel
              have f1 := X.out.cell 1 rfl
              have e1 := Y.out.cell 1 rfl
              by_cases hjt : j < m
              · obtain ⟨b, off, rfl, hc⟩ := (G.out.1.below hbw) j (by rw [HM.out.1]; exact hjt)
                obtain ⟨b', off', rfl, hc'⟩ := (G.out.2.below hbw) j (by rw [HM.out.2]; exact hjt)
                have HN := Lib.hid (fun e => take_next false HT.out (by rw [HM.out.1]; exact hjt) (by rw [HM.out.2]; exact hjt) e)
                have HX := Lib.hid (fun e => ne_of_at (l := gs) (m := gs') (k := j) false e)
                generalize gs.getD j false = x at hc HN HX
                generalize gs'.getD j false = y at hc' HN HX
                have hi : (j : Int) < (m : Int) := by omega
                by_cases hE : x = y
                · have hq1 : (x == y) = true := by simp [hE]
                  have hq2 : (x != y) = false := by simp [hE]
                  have HE := Lib.hid hE
                  clear hE
                  go_wp2
                  go_quiet (fail)
                  go_wp2
                  go_roundw
                  case rel => exact ⟨j + 1, by omega, by go_num, Lib.hid (HN.out HE.out), below_drewN hbw _, Lib.hid (X.out.drewN _), Lib.hid (Y.out.drewN _)⟩
                  case measure => simp [intOf]; omega
                · have hq1 : (x == y) = false := by simp [hE]
                  have hq2 : (x != y) = true := by simp [hE]
                  have HE := Lib.hid hE
                  clear hE
                  go_wp2
                  go_quiet (fail)
                  go_wp2
                  go_ret
                  exact ⟨ret_bool (by rw [HR.out]; simp [HX.out HE.out]), below_drewN hbw _⟩
              · have HG := Lib.hid (take_all HT.out (by rw [HM.out.1]; omega) (by rw [HM.out.2]; omega))
                go_wp2
                go_ret
                exact ⟨ret_bool (by rw [HR.out, HZ.out, HG.out]; simp), hbw⟩
      · have s2 : ((m : Int) != (m' : Int)) = true := by simp; omega
        have HF : Hid (r = false) := Lib.hid (by rw [HR.out]; simp; intro _ e; apply hM; rw [← HM.out.1, ← HM.out.2, e])
        clear hM HR
        go_enter Try.func21, Try.ntmps21
        go_wp2
        rw [← HW0.out]
        go_ret
        exact ⟨ret_bool HF.out.symm, hb0⟩
    · have s1 : ((n : Int) != (n' : Int)) = true := by simp; omega
      have HF : Hid (r = false) := Lib.hid (by rw [HR.out]; simp; intro e; exfalso; apply hN; rw [← HL.out.1, ← HL.out.2, e])
      clear hN HR
      go_enter Try.func21, Try.ntmps21
      go_wp2
      rw [← HW0.out]
      go_ret
      exact ⟨ret_bool HF.out.symm, hb0⟩
  · have s0 : (st != st') = true := by simp [hS]
    have HF : Hid (r = false) := Lib.hid (by rw [HR.out]; simp [hS])
    clear hS HR
    go_enter Try.func21, Try.ntmps21
    go_wp2
    rw [← HW0.out]
    go_ret
    exact ⟨ret_bool HF.out.symm, hb0⟩
end Go.Proofs.Ythobepmlopegbaa

/- Contracts of l04Same and both SameArray. -/
namespace Go.Proofs.Ythobepmlopegbaa
open Go.RowKit

set_option maxRecDepth 100000 in
set_option maxHeartbeats 1000000 in
theorem l04Same (A A' C C' : Option Addr) (n n' m m' c c' d d' : Nat) (st st' : Int) (zs zs' : List Int) (gs gs' : List Bool) (w : World)
    (hl : zs.length = n) (hl' : zs'.length = n') (hm : gs.length = m) (hm' : gs'.length = m') (hn : n ≤ maxLen) (hn' : n' ≤ maxLen) (gn : m ≤ maxLen) (gn' : m' ≤ maxLen)
    (h : IntL w A zs) (h' : IntL w A' zs') (g : BoolL w C gs) (g' : BoolL w C' gs') :
    Calls Try.prog 46 #[.agg #[.slice A n c, .slice C m d, .int .i64 st], .agg #[.slice A' n' c', .slice C' m' d', .int .i64 st']] w fun e w' => e = .returned (.bool (sameArr zs zs' gs gs')) ∧ Below w.heap.size w w' := by
  have H1 := Lib.hid (fun W hb => specSame A A' C C' n n' m m' c c' d d' st st zs zs' gs gs' W hl hl' hm hm' hn hn' gn gn' (h.below hb) (h'.below hb) (g.below hb) (g'.below hb))
  obtain ⟨W0, hW0⟩ : ∃ W0, W0 = ((w.alloc (.cells #[.slice A n c, .slice C m d, .int .i64 st] 26)).alloc (.cells #[.slice A' n' c', .slice C' m' d', .int .i64 st] 26)) := ⟨_, rfl⟩
  have hb0 : Below w.heap.size w W0 := by rw [hW0]; exact ((Below.refl _ _).alloc (Nat.le_refl _) _).alloc (by simp) _
  have HW0 := Lib.hid hW0
  have HR : Hid (sameFl zs zs' gs gs' st st = sameArr zs zs' gs gs') := Lib.hid (by unfold sameFl sameArr; simp)
  rw [HR.out] at H1
  generalize sameArr zs zs' gs gs' = r at H1
  clear hl hl' hm hm' hn hn' gn gn' h h' g g' hW0 HR
  go_enter Try.func46, Try.ntmps46
  go_wp2_with fail
  rw [← HW0.out]
  refine (H1.out _ hb0).mono ?_
  rintro e w1 ⟨rfl, hb1⟩
  go_wp2
  go_ret
  exact ⟨rfl, bt hb0 hb1⟩

/-- What SameArray answers. -/
def sameArrC (zs zs' : List Int) (gs gs' : List Bool) (st st' : Int) : Bool × Int := if okFlash zs gs st && okFlash zs' gs' st' then (sameArr zs zs' gs gs', 0) else (false, 1)

set_option maxRecDepth 100000 in
set_option maxHeartbeats 2000000 in
theorem implSameArray (A A' C C' : Option Addr) (n n' m m' c c' d d' : Nat) (st st' : Int) (zs zs' : List Int) (gs gs' : List Bool) (w : World)
    (hl : zs.length = n) (hl' : zs'.length = n') (hm : gs.length = m) (hm' : gs'.length = m') (hn : n ≤ maxLen) (hn' : n' ≤ maxLen) (gn : m ≤ maxLen) (gn' : m' ≤ maxLen)
    (h : IntL w A zs) (h' : IntL w A' zs') (g : BoolL w C gs) (g' : BoolL w C' gs') :
    Calls Try.prog 14 #[.agg #[.slice A n c, .slice C m d, .int .i64 st], .agg #[.slice A' n' c', .slice C' m' d', .int .i64 st']] w fun e w' => e = .returned (.tuple #[.bool (sameArrC zs zs' gs gs' st st').1, .int .i64 (sameArrC zs zs' gs gs' st st').2]) ∧ Below w.heap.size w w' := by
  have HV := Lib.hid (fun W hb => flashValid A C n c m d st zs gs W hl hm hn gn (h.below hb))
  have HV' := Lib.hid (fun W hb => flashValid A' C' n' c' m' d' st' zs' gs' W hl' hm' hn' gn' (h'.below hb))
  have H1 := Lib.hid (fun W hb => sameArray A A' C C' n n' m m' c c' d d' st st' zs zs' gs gs' W hl hl' hm hm' hn hn' gn gn' (h.below hb) (h'.below hb) (g.below hb) (g'.below hb))
  obtain ⟨W0, hW0⟩ : ∃ W0, W0 = ((w.alloc (.cells #[.slice A n c, .slice C m d, .int .i64 st] 26)).alloc (.cells #[.slice A' n' c', .slice C' m' d', .int .i64 st'] 26)) := ⟨_, rfl⟩
  have hb0 : Below w.heap.size w W0 := by rw [hW0]; exact ((Below.refl _ _).alloc (Nat.le_refl _) _).alloc (by simp) _
  have X0 : Hid (Box W0 w.heap.size 26 #[.slice A n c, .slice C m d, .int .i64 st]) := Lib.hid (by rw [hW0]; exact (Box.new _ _ _).alloc _)
  have Y0 : Hid (Box W0 (w.heap.size + 1) 26 #[.slice A' n' c', .slice C' m' d', .int .i64 st']) := Lib.hid (by rw [hW0]; simpa using Box.new (w.alloc (.cells #[.slice A n c, .slice C m d, .int .i64 st] 26)) 26 #[.slice A' n' c', .slice C' m' d', .int .i64 st'])
  have HW0 := Lib.hid hW0
  have HR : Hid (sameArrC zs zs' gs gs' st st' = if okFlash zs gs st && okFlash zs' gs' st' then (sameArr zs zs' gs gs', 0) else (false, 1)) := Lib.hid rfl
  generalize sameArrC zs zs' gs gs' st st' = r at HR
  generalize sameArr zs zs' gs gs' = q1 at H1 HR
  generalize okFlash zs gs st = ok at HV HR
  generalize okFlash zs' gs' st' = ok' at HV' HR
  clear hl hl' hm hm' hn hn' gn gn' h h' g g' hW0
  go_enter Try.func14, Try.ntmps14
  go_wp2_with fail
  rw [← HW0.out]
  refine (HV.out _ hb0).mono ?_
  rintro e w1 ⟨rfl, hb1⟩
  have X1 := Lib.hid (X0.out.step hb1)
  have Y1 := Lib.hid (Y0.out.step hb1)
  have hb := bt hb0 hb1
  clear X0 Y0 HW0 hb0 hb1
  cases ok
  · go_wp2
    refine bodyPost_ret (v := .tuple #[.bool false, .int .i64 1]) (by simp [results, Try.results14, go_sem]) rfl ?_
    exact ⟨by rw [HR.out]; rfl, hb⟩
  · have f0 := Y1.out.cell 0 rfl
    have f1 := Y1.out.cell 1 rfl
    have f2 := Y1.out.cell 2 rfl
    go_wp2_with fail
    refine (HV'.out _ hb).mono ?_
    rintro e w2 ⟨rfl, hb2⟩
    have X2 := Lib.hid (X1.out.step hb2)
    have Y2 := Lib.hid (Y1.out.step hb2)
    have hb3 := bt hb hb2
    clear X1 Y1 hb hb2 f0 f1 f2
    cases ok'
    · go_wp2
      refine bodyPost_ret (v := .tuple #[.bool false, .int .i64 1]) (by simp [results, Try.results14, go_sem]) rfl ?_
      exact ⟨by rw [HR.out]; rfl, hb3⟩
    · have f0 := Y2.out.cell 0 rfl
      have f1 := Y2.out.cell 1 rfl
      have f2 := Y2.out.cell 2 rfl
      have g0 := X2.out.cell 0 rfl
      have g1 := X2.out.cell 1 rfl
      have g2 := X2.out.cell 2 rfl
      go_wp2_with fail
      refine (H1.out _ hb3).mono ?_
      rintro e w4 ⟨rfl, hb4⟩
      go_wp2
      refine bodyPost_ret (v := .tuple #[.bool q1, .int .i64 0]) (by simp [results, Try.results14, go_sem]) rfl ?_
      exact ⟨by rw [HR.out]; rfl, bt hb3 hb4⟩

set_option maxRecDepth 100000 in
set_option maxHeartbeats 2000000 in
theorem specSameArray (A A' C C' : Option Addr) (n n' m m' c c' d d' : Nat) (st st' : Int) (zs zs' : List Int) (gs gs' : List Bool) (w : World)
    (hl : zs.length = n) (hl' : zs'.length = n') (hm : gs.length = m) (hm' : gs'.length = m') (hn : n ≤ maxLen) (hn' : n' ≤ maxLen) (gn : m ≤ maxLen) (gn' : m' ≤ maxLen)
    (h : IntL w A zs) (h' : IntL w A' zs') (g : BoolL w C gs) (g' : BoolL w C' gs') :
    Calls Try.prog 15 #[.agg #[.slice A n c, .slice C m d, .int .i64 st], .agg #[.slice A' n' c', .slice C' m' d', .int .i64 st']] w fun e w' => e = .returned (.tuple #[.bool (sameArrC zs zs' gs gs' st st').1, .int .i64 (sameArrC zs zs' gs gs' st st').2]) ∧ Below w.heap.size w w' := by
  have HV := Lib.hid (fun W hb => specFlashOK A C n c m d st zs gs W hl hm hn gn (h.below hb))
  have HV' := Lib.hid (fun W hb => specFlashOK A' C' n' c' m' d' st' zs' gs' W hl' hm' hn' gn' (h'.below hb))
  have H1 := Lib.hid (fun W hb => l04Same A A' C C' n n' m m' c c' d d' st st' zs zs' gs gs' W hl hl' hm hm' hn hn' gn gn' (h.below hb) (h'.below hb) (g.below hb) (g'.below hb))
  obtain ⟨W0, hW0⟩ : ∃ W0, W0 = ((w.alloc (.cells #[.slice A n c, .slice C m d, .int .i64 st] 26)).alloc (.cells #[.slice A' n' c', .slice C' m' d', .int .i64 st'] 26)) := ⟨_, rfl⟩
  have hb0 : Below w.heap.size w W0 := by rw [hW0]; exact ((Below.refl _ _).alloc (Nat.le_refl _) _).alloc (by simp) _
  have X0 : Hid (Box W0 w.heap.size 26 #[.slice A n c, .slice C m d, .int .i64 st]) := Lib.hid (by rw [hW0]; exact (Box.new _ _ _).alloc _)
  have Y0 : Hid (Box W0 (w.heap.size + 1) 26 #[.slice A' n' c', .slice C' m' d', .int .i64 st']) := Lib.hid (by rw [hW0]; simpa using Box.new (w.alloc (.cells #[.slice A n c, .slice C m d, .int .i64 st] 26)) 26 #[.slice A' n' c', .slice C' m' d', .int .i64 st'])
  have HW0 := Lib.hid hW0
  have HR : Hid (sameArrC zs zs' gs gs' st st' = if okFlash zs gs st && okFlash zs' gs' st' then (sameArr zs zs' gs gs', 0) else (false, 1)) := Lib.hid rfl
  generalize sameArrC zs zs' gs gs' st st' = r at HR
  generalize sameArr zs zs' gs gs' = q1 at H1 HR
  generalize okFlash zs gs st = ok at HV HR
  generalize okFlash zs' gs' st' = ok' at HV' HR
  clear hl hl' hm hm' hn hn' gn gn' h h' g g' hW0
  go_enter Try.func15, Try.ntmps15
  go_wp2_with fail
  rw [← HW0.out]
  refine (HV.out _ hb0).mono ?_
  rintro e w1 ⟨rfl, hb1⟩
  have X1 := Lib.hid (X0.out.step hb1)
  have Y1 := Lib.hid (Y0.out.step hb1)
  have hb := bt hb0 hb1
  clear X0 Y0 HW0 hb0 hb1
  cases ok
  · go_wp2
    refine bodyPost_ret (v := .tuple #[.bool false, .int .i64 1]) (by simp [results, Try.results15, go_sem]) rfl ?_
    exact ⟨by rw [HR.out]; rfl, hb⟩
  · have f0 := Y1.out.cell 0 rfl
    have f1 := Y1.out.cell 1 rfl
    have f2 := Y1.out.cell 2 rfl
    go_wp2_with fail
    refine (HV'.out _ hb).mono ?_
    rintro e w2 ⟨rfl, hb2⟩
    have X2 := Lib.hid (X1.out.step hb2)
    have Y2 := Lib.hid (Y1.out.step hb2)
    have hb3 := bt hb hb2
    clear X1 Y1 hb hb2 f0 f1 f2
    cases ok'
    · go_wp2
      refine bodyPost_ret (v := .tuple #[.bool false, .int .i64 1]) (by simp [results, Try.results15, go_sem]) rfl ?_
      exact ⟨by rw [HR.out]; rfl, hb3⟩
    · have f0 := Y2.out.cell 0 rfl
      have f1 := Y2.out.cell 1 rfl
      have f2 := Y2.out.cell 2 rfl
      have g0 := X2.out.cell 0 rfl
      have g1 := X2.out.cell 1 rfl
      have g2 := X2.out.cell 2 rfl
      go_wp2_with fail
      refine (H1.out _ hb3).mono ?_
      rintro e w4 ⟨rfl, hb4⟩
      go_wp2
      refine bodyPost_ret (v := .tuple #[.bool q1, .int .i64 0]) (by simp [results, Try.results15, go_sem]) rfl ?_
      exact ⟨by rw [HR.out]; rfl, bt hb3 hb4⟩
end Go.Proofs.Ythobepmlopegbaa

/- The walk of FnImage. -/
namespace Go.Proofs.Ythobepmlopegbaa
open Go.RowKit

/-- A valid flash in a variable. -/
structure FlV (D : Nat) (A : Option Addr) (c : Nat) (C : Option Addr) (d : Nat) (st : Int) (zs : List Int) (gs : List Bool) (w : World) : Prop where
  x : Box w D 26 #[.slice A 256 c, .slice C 16 d, .int .i64 st]
  s : IntL w A zs
  r : BoolL w C gs
theorem FlV.step {D : Nat} {A : Option Addr} {c : Nat} {C : Option Addr} {d : Nat} {st : Int} {zs : List Int} {gs : List Bool} {w w' : World} (h : FlV D A c C d st zs gs w) (hb : Below w.heap.size w w') : FlV D A c C d st zs gs w' := ⟨h.x.step hb, h.s.below hb, h.r.below hb⟩
theorem FlV.new {A : Option Addr} {c : Nat} {C : Option Addr} {d : Nat} {st : Int} {zs : List Int} {gs : List Bool} {w : World} (s : IntL w A zs) (r : BoolL w C gs) : FlV w.heap.size A c C d st zs gs (w.alloc (.cells #[.slice A 256 c, .slice C 16 d, .int .i64 st] 26)) :=
  ⟨Box.new _ _ _, s.below (alloc_below _ _), r.below (alloc_below _ _)⟩
theorem ok_zero {zs : List Int} {gs : List Bool} {st : Int} (h : okFlash zs gs st = true) : okFlash zs gs 0 = true := by
  obtain ⟨h1, h2, _, h4⟩ := okFlash_len h
  exact okFlash_mk h1 h2 (by omega) h4
theorem sameArrC_ok {zs zs' : List Int} {gs gs' : List Bool} {st st' : Int} (h : okFlash zs gs st = true) (h' : okFlash zs' gs' st' = true) : sameArrC zs zs' gs gs' st st' = (sameArr zs zs' gs gs', 0) := by
  unfold sameArrC; rw [h, h']; rfl

set_option maxRecDepth 100000 in
set_option maxHeartbeats 16000000 in
theorem walkImage (A : Option Addr) (n c : Nat) (zs : List Nat) (A' : Option Addr) (n' c' : Nat) (zs' : List Nat) (w : World) (hl : zs.length = n) (hl' : zs'.length = n') (hn : n ≤ maxLen) (hn' : n' ≤ maxLen) (h : ByB w w.heap.size A zs) (h' : ByB w w.heap.size A' zs') :
    Calls Try.prog 3 #[.slice A n c, .slice A' n' c'] w fun e w' => e = .returned (.bool true) ∧ Below w.heap.size w w' := by
  by_cases hle : n ≤ 1048576
  · by_cases hle' : n' ≤ 1048576
    · have i1 : ¬ (1048576 : Int) < (n : Int) := by omega
      have i2 : ¬ (1048576 : Int) < (n' : Int) := by omega
      have HD := Lib.hid (flashDrawn A n c zs w hn hl h)
      have HD2 := Lib.hid (fun W (hb : Below w.heap.size w W) => flashDrawn A' n' c' zs' W hn' hl' (h'.step hb))
      have HAt := Lib.hid (fun W (hb : Below w.heap.size w W) => lawAtE 0 256 A' n' c' zs' W (by omega) (by omega) (by omega) hle' hl' (h'.step hb))
      have hv256 : atOf zs' 0 256 ≤ 255 := by have := atOf_lt zs' 0 256 (by omega); omega
      generalize atOf zs' 0 256 = v at HAt hv256
      have HHx := Lib.hid (fun W => implHexByte (v : Int) W)
      have HHo : Hid (hexOf (v : Int) = (hex2 v, 0)) := Lib.hid (by unfold hexOf; rw [if_pos (by unfold byB; simp; omega)]; rfl)
      rw [HHo.out] at HHx
      have HBx := Lib.hid (fun W => implByteHex (hex2 v) W (by rw [hex2_size]; unfold maxLen; omega))
      have HBo : Hid (byteHex (hex2 v) = ((v : Int), 0)) := Lib.hid (by unfold byteHex; rw [if_neg (by rw [hex2_size]; omega), byte_hex v hv256])
      rw [HBo.out] at HBx
      have hs2 : (((hex2 v).size : Nat) : Int) = 2 := by rw [hex2_size]; rfl
      have hsq : ((((hex2 v).size : Nat) : Int) == 2) = true := by rw [hs2]; rfl
      generalize hex2 v = tx at HHx HBx hsq
      have hvq : ((v : Int) == (v : Int)) = true := by simp
      clear hs2 HHo HBo hl hl' hn hn' h h' hv256
      go_enter Try.func3, Try.ntmps3
      go_wp2_with fail
      refine HD.out.mono ?_
      rintro e w1 ⟨z1, g1, s1, A1, c1, C1, d1, O1, rfl, S1, R1, K1, B1⟩
      have F2 := Lib.hid (FlV.new (c := c1) (d := d1) (st := s1) S1.out.reads R1.out.reads)
      have hb2 := bt B1.out (alloc_below w1 (.cells #[.slice A1 256 c1, .slice C1 16 d1, .int .i64 s1] 26))
      obtain ⟨w2, hw2⟩ : ∃ w2, w2 = w1.alloc (.cells #[.slice A1 256 c1, .slice C1 16 d1, .int .i64 s1] 26) := ⟨_, rfl⟩
      rw [← hw2] at F2 hb2
      have HW2 := Lib.hid hw2
      clear S1 R1 B1 HD hw2
      go_wp2_with fail
      rw [← HW2.out]
      refine (HD2.out w2 hb2).mono ?_
      rintro e w3 ⟨z2, g2, s2, A2, c2, C2, d2, O2, rfl, S2, R2, K2, B2⟩
      have G4 := Lib.hid (FlV.new (c := c2) (d := d2) (st := s2) S2.out.reads R2.out.reads)
      have ha := alloc_below w3 (.cells #[.slice A2 256 c2, .slice C2 16 d2, .int .i64 s2] 26)
      have F4 := Lib.hid ((F2.out.step B2.out).step ha)
      have hb4 := bt (bt hb2 B2.out) ha
      obtain ⟨w4, hw4⟩ : ∃ w4, w4 = w3.alloc (.cells #[.slice A2 256 c2, .slice C2 16 d2, .int .i64 s2] 26) := ⟨_, rfl⟩
      rw [← hw4] at G4 F4 hb4
      have f0 := F4.out.x.cell 0 rfl
      have f1 := F4.out.x.cell 1 rfl
      have f2 := F4.out.x.cell 2 rfl
      rw [hw4] at f0 f1 f2
      have HW4 := Lib.hid hw4
      have HP := Lib.hid (fun W (q : FlV w1.heap.size A1 c1 C1 d1 s1 z1 g1 W) => implPagesOf A1 C1 c1 d1 s1 z1 g1 W O1.out K1.out q.s q.r)
      have HQ := Lib.hid (fun W (q : FlV w1.heap.size A1 c1 C1 d1 s1 z1 g1 W) => specPagesOf A1 C1 c1 d1 s1 z1 g1 W O1.out q.s q.r)
      have HLp := Lib.hid (pages_len z1 g1)
      have HIb := Lib.hid (image_back z1 g1 s1 O1.out)
      have HFt : Hid (FitS (pagesL z1 g1)) := Lib.hid (by
        have h0 := pages_ok z1 g1 (okRange O1.out).1 (okRange O1.out).2.1
        unfold pagesC at h0
        rw [pages_len, if_neg (by omega), if_neg (by omega)] at h0
        split at h0
        · rename_i ha
          intro s hs
          rw [List.all_eq_true] at ha
          have := ha s hs
          unfold okSt at this
          simp at this
          unfold maxLen; omega
        · cases h0)
      generalize pagesL z1 g1 = ps at HP HQ HLp HIb HFt
      clear S2 R2 B2 HD2 hw4 ha F2 HW2 hb2 K2
      go_wp2_with fail
      rw [← HW4.out]
      clear HW4 f0 f1 f2
      refine (HP.out w4 F4.out).mono ?_
      rintro e w5 ⟨Ap, cp, rfl, Sp, Kp, hb5⟩
      have F5 := Lib.hid (F4.out.step hb5)
      have G5 := Lib.hid (G4.out.step hb5)
      have P5 := Lib.hid Sp.out.reads
      have hB5 := bt hb4 hb5
      have f0 := F5.out.x.cell 0 rfl
      have f1 := F5.out.x.cell 1 rfl
      have f2 := F5.out.x.cell 2 rfl
      clear F4 G4 Sp hb4 hb5 HP
      go_wp2_with fail
      clear f0 f1 f2
      refine (HQ.out w5 F5.out).mono ?_
      rintro e w6 ⟨Aq, cq, rfl, Sq, hb6⟩
      have F6 := Lib.hid (F5.out.step hb6)
      have G6 := Lib.hid (G5.out.step hb6)
      have P6 := Lib.hid (P5.out.below hb6)
      have Q6 := Lib.hid Sq.out.reads
      have hB6 := bt hB5 hb6
      have HX := Lib.hid (implFlashOfW Ap 17 cp ps w6 HLp.out (by unfold maxLen; omega) Kp.out P6.out HFt.out)
      clear F5 G5 P5 Sq hB5 hb6 HQ Kp
      go_wp2_with fail
      refine HX.out.mono ?_
      intro e w7 hX
      have h7 : ∃ A7 c7 C7 d7, e = .returned (.tuple #[.agg #[.slice A7 256 c7, .slice C7 16 d7, .int .i64 0], .int .i64 0]) ∧ Hid (IntL w7 A7 z1) ∧ Hid (BoolL w7 C7 g1) ∧ Below w6.heap.size w6 w7 := by
        obtain ⟨A7, C7, c7, d7, rfl, O7, hb7⟩ := hX
        rw [HIb.out] at O7 ⊢
        have hq := okRange O1.out
        refine ⟨A7, c7, C7, d7, ?_, Lib.hid (repI O7.out.reads.1), Lib.hid (repB O7.out.reads.2.1), hb7⟩
        simp only
        rw [hq.1, hq.2.1]
        rfl
      clear hX
      obtain ⟨A7, c7, C7, d7, rfl, I7, J7, hb7⟩ := h7
      have X8 := Lib.hid (FlV.new (c := c7) (d := d7) (st := 0) I7.out J7.out)
      have ha := alloc_below w7 (.cells #[.slice A7 256 c7, .slice C7 16 d7, .int .i64 0] 26)
      have F8 := Lib.hid ((F6.out.step hb7).step ha)
      have G8 := Lib.hid ((G6.out.step hb7).step ha)
      have P8 := Lib.hid ((P6.out.below hb7).below ha)
      have Q8 := Lib.hid ((Q6.out.below hb7).below ha)
      have hB8 := bt (bt hB6 hb7) ha
      obtain ⟨w8, hw8⟩ : ∃ w8, w8 = w7.alloc (.cells #[.slice A7 256 c7, .slice C7 16 d7, .int .i64 0] 26) := ⟨_, rfl⟩
      rw [← hw8] at X8 F8 G8 P8 Q8 hB8
      have f0 := F8.out.x.cell 0 rfl
      have f1 := F8.out.x.cell 1 rfl
      have f2 := F8.out.x.cell 2 rfl
      rw [hw8] at f0 f1 f2
      have HW8 := Lib.hid hw8
      have hm : (256 : Nat) ≤ maxLen ∧ (16 : Nat) ≤ maxLen := by unfold maxLen; omega
      have HS1 := Lib.hid (implSameArray A7 A1 C7 C1 256 256 16 16 c7 c1 d7 d1 0 s1 z1 z1 g1 g1 w8 (okRange O1.out).1 (okRange O1.out).1 (okRange O1.out).2.1 (okRange O1.out).2.1 hm.1 hm.1 hm.2 hm.2 X8.out.s F8.out.s X8.out.r F8.out.r)
      rw [sameArrC_ok (ok_zero O1.out) O1.out] at HS1
      have hself : sameArr z1 z1 g1 g1 = true := by unfold sameArr; simp
      rw [hself] at HS1
      have HS2 := Lib.hid (fun W (p : FlV w1.heap.size A1 c1 C1 d1 s1 z1 g1 W) (q : FlV w3.heap.size A2 c2 C2 d2 s2 z2 g2 W) => implSameArray A1 A2 C1 C2 256 256 16 16 c1 c2 d1 d2 s1 s2 z1 z2 g1 g2 W (okRange O1.out).1 (okRange O2.out).1 (okRange O1.out).2.1 (okRange O2.out).2.1 hm.1 hm.1 hm.2 hm.2 p.s q.s p.r q.r)
      have HS3 := Lib.hid (fun W (p : FlV w1.heap.size A1 c1 C1 d1 s1 z1 g1 W) (q : FlV w3.heap.size A2 c2 C2 d2 s2 z2 g2 W) => specSameArray A1 A2 C1 C2 256 256 16 16 c1 c2 d1 d2 s1 s2 z1 z2 g1 g2 W (okRange O1.out).1 (okRange O2.out).1 (okRange O1.out).2.1 (okRange O2.out).2.1 hm.1 hm.1 hm.2 hm.2 p.s q.s p.r q.r)
      rw [sameArrC_ok O1.out O2.out] at HS2 HS3
      generalize sameArr z1 z2 g1 g2 = sq at HS2 HS3
      have hsqq : (sq == sq) = true := by simp
      clear hself hm I7 J7 hb7 ha hw8 F6 G6 P6 Q6 hB6 HX HIb HFt O1 O2 K1
      go_wp2_with fail
      rw [← HW8.out]
      clear HW8 f0 f1 f2
      refine HS1.out.mono ?_
      rintro e w9 ⟨rfl, hb9⟩
      have X9 := Lib.hid (X8.out.step hb9)
      have F9 := Lib.hid (F8.out.step hb9)
      have G9 := Lib.hid (G8.out.step hb9)
      have P9 := Lib.hid (P8.out.below hb9)
      have Q9 := Lib.hid (Q8.out.below hb9)
      have hB9 := bt hB8 hb9
      have f0 := F9.out.x.cell 0 rfl
      have f1 := F9.out.x.cell 1 rfl
      have f2 := F9.out.x.cell 2 rfl
      have k0 := G9.out.x.cell 0 rfl
      have k1 := G9.out.x.cell 1 rfl
      have k2 := G9.out.x.cell 2 rfl
      clear X8 F8 G8 P8 Q8 hB8 hb9 HS1
      go_wp2_with fail
      clear f0 f1 f2 k0 k1 k2
      refine (HS2.out w9 F9.out G9.out).mono ?_
      rintro e wa ⟨rfl, hba⟩
      have Xa := Lib.hid (X9.out.step hba)
      have Fa := Lib.hid (F9.out.step hba)
      have Ga := Lib.hid (G9.out.step hba)
      have Pa := Lib.hid (P9.out.below hba)
      have Qa := Lib.hid (Q9.out.below hba)
      have hBa := bt hB9 hba
      have f0 := Fa.out.x.cell 0 rfl
      have f1 := Fa.out.x.cell 1 rfl
      have f2 := Fa.out.x.cell 2 rfl
      have k0 := Ga.out.x.cell 0 rfl
      have k1 := Ga.out.x.cell 1 rfl
      have k2 := Ga.out.x.cell 2 rfl
      clear X9 F9 G9 P9 Q9 hB9 hba HS2
      go_wp2_with fail
      clear f0 f1 f2 k0 k1 k2
      refine (HS3.out wa Fa.out Ga.out).mono ?_
      rintro e wb ⟨rfl, hbb⟩
      have Xb := Lib.hid (Xa.out.step hbb)
      have Pb := Lib.hid (Pa.out.below hbb)
      have Qb := Lib.hid (Qa.out.below hbb)
      have hBb := bt hBa hbb
      clear Xa Fa Ga Pa Qa hBa hbb HS3
      go_wp2_with fail
      refine (HAt.out wb hBb).mono ?_
      rintro e wc ⟨rfl, hbc⟩
      have Xc := Lib.hid (Xb.out.step hbc)
      have Pc := Lib.hid (Pb.out.below hbc)
      have Qc := Lib.hid (Qb.out.below hbc)
      have hBc := bt hBb hbc
      clear Xb Pb Qb hBb hbc
      go_wp2_with fail
      refine (HHx.out wc).mono ?_
      rintro e wd ⟨rfl, hbd⟩
      have Xd := Lib.hid (Xc.out.step hbd)
      have Pd := Lib.hid (Pc.out.below hbd)
      have Qd := Lib.hid (Qc.out.below hbd)
      have hBd := bt hBc hbd
      clear Xc Pc Qc hBc hbd HHx
      go_wp2_with fail
      refine (HBx.out wd).mono ?_
      rintro e we ⟨rfl, hbe⟩
      have Xe := Lib.hid (Xd.out.step hbe)
      have Pe := Lib.hid (Pd.out.below hbe)
      have Qe := Lib.hid (Qd.out.below hbe)
      have hBe := bt hBd hbe
      clear Xd Pd Qd hBd hbe HBx
      go_wp2_with fail
      refine (sameTexts Ap Aq 17 cp cq ps we HLp.out (by omega) Pe.out Qe.out).mono ?_
      rintro e wf ⟨rfl, hbf⟩
      have Xf := Lib.hid (Xe.out.step hbf)
      have hBf := bt hBe hbf
      have x2 := Xf.out.x.cell 2 rfl
      clear Xe Pe Qe hBe hbf
      go_wp2_with fail
      refine (HAt.out wf hBf).mono ?_
      rintro e wg ⟨rfl, hbg⟩
      have hBg := bt hBf hbg
      clear Xf hBf hbg x2
      go_wp2
      go_ret
      exact ⟨rfl, hBg⟩
    · have i1 : ¬ (1048576 : Int) < (n : Int) := by omega
      have i2 : (1048576 : Int) < (n' : Int) := by omega
      unfold maxLen at hn hn'
      clear hl hl' h h'
      go_enter Try.func3, Try.ntmps3
      go_wp2
      go_ret
      exact ⟨rfl, Below.refl _ _⟩
  · have i1 : (1048576 : Int) < (n : Int) := by omega
    unfold maxLen at hn hn'
    clear hl hl' h h'
    go_enter Try.func3, Try.ntmps3
    go_wp2
    go_ret
    exact ⟨rfl, Below.refl _ _⟩
end Go.Proofs.Ythobepmlopegbaa
