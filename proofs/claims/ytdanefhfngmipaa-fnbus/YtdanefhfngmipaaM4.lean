/- Texts of this claim, one behind the other: FlashDraw, DrawProg, MemMath, GenA, GenB, GenC, GenFlash. -/
import Derived.Deep.RegionWith
import Derived.Test.YtdanefhfngmipaaM3
/- What the model draws of a flash: size, a bus cycle. -/
namespace Go.Proofs.Ytdanefhfngmipaa
open Go.RowKit


set_option maxRecDepth 100000 in
set_option maxHeartbeats 4000000 in
theorem srcSize (b : Nat) (A : Option Addr) (n c : Nat) (zs : List Nat) (K : Nat) (w : World) (hn : n ≤ maxLen) (h : Src w b A n c zs K) :
    Calls Try.prog 98 #[.pointer (some ⟨b, 0, none⟩), .int .i64 30] w fun e w' => ∃ v : Nat, e = .returned (.int .i64 v) ∧ (1 ≤ v ∧ v ≤ 30) ∧ w = w' := by
  unfold maxLen at hn
  obtain ⟨k, sd, X, q2, q3, q4, q5⟩ := h
  have x0 := X.cell 0 rfl
  clear X q5
  go_enter Try.func98, Try.ntmps98
  go_wp2
  · refine bodyPost_ret (v := .int .i64 ((30 : Nat) : Int)) (by simp [results, Try.results98, go_sem]) rfl ?_
    exact ⟨30, rfl, by omega, rfl⟩
  · refine bodyPost_ret (v := .int .i64 ((1 + n / 12 : Nat) : Int)) (by simp [results, Try.results98, go_sem]) rfl ?_
    exact ⟨_, rfl, by omega, rfl⟩

def tab6 (i : Nat) : Nat := [160, 160, 128, 144, 154, 240].getD i 0
def tab3 (i : Nat) : Nat := [48, 48, 16].getD i 0
def tab2 (i : Nat) : Nat := [240, 0].getD i 0
theorem tab6_lt (i : Nat) : tab6 i < 256 := by
  match i with
  | 0 | 1 | 2 | 3 | 4 | 5 => decide
  | i + 6 => show 0 < 256; omega
theorem tab3_lt (i : Nat) : tab3 i < 256 := by
  match i with
  | 0 | 1 | 2 => decide
  | i + 3 => show 0 < 256; omega
theorem tab2_lt (i : Nat) : tab2 i < 256 := by
  match i with
  | 0 | 1 => decide
  | i + 2 => show 0 < 256; omega
theorem cell6 {w : World} {b : Nat} (h : Box w b 3 #[.int .i64 160, .int .i64 160, .int .i64 128, .int .i64 144, .int .i64 154, .int .i64 240]) (i : Nat) (hi : i < 6) : w.cell? ⟨b, i, none⟩ = some (.int .i64 (tab6 i : Nat)) := by
  match i, hi with
  | 0, _ => exact h.cell 0 rfl
  | 1, _ => exact h.cell 1 rfl
  | 2, _ => exact h.cell 2 rfl
  | 3, _ => exact h.cell 3 rfl
  | 4, _ => exact h.cell 4 rfl
  | 5, _ => exact h.cell 5 rfl
theorem cell3 {w : World} {b : Nat} (h : Box w b 3 #[.int .i64 48, .int .i64 48, .int .i64 16]) (i : Nat) (hi : i < 3) : w.cell? ⟨b, i, none⟩ = some (.int .i64 (tab3 i : Nat)) := by
  match i, hi with
  | 0, _ => exact h.cell 0 rfl
  | 1, _ => exact h.cell 1 rfl
  | 2, _ => exact h.cell 2 rfl
theorem cell2 {w : World} {b : Nat} (h : Box w b 3 #[.int .i64 240, .int .i64 0]) (i : Nat) (hi : i < 2) : w.cell? ⟨b, i, none⟩ = some (.int .i64 (tab2 i : Nat)) := by
  match i, hi with
  | 0, _ => exact h.cell 0 rfl
  | 1, _ => exact h.cell 1 rfl

/-- A drawn cycle. -/
def GivesCycle (w : World) (b : Nat) (A : Option Addr) (n c : Nat) (zs : List Nat) (K : Nat) (e : Ending) (w' : World) : Prop :=
  ∃ k v : Nat, e = .returned (.tuple #[.int .i64 k, .int .i64 v]) ∧ (k < 256 ∧ v < 256) ∧ Hid (Src w' b A n c zs (K + 3)) ∧ Btw b (b + 1) w w'

set_option maxRecDepth 100000 in
set_option maxHeartbeats 8000000 in
theorem srcCycle (st : Int) (b : Nat) (A : Option Addr) (n c : Nat) (zs : List Nat) (K : Nat) (w : World) (hK : K ≤ 100000) (h : Src w b A n c zs K) :
    Calls Try.prog 100 #[.pointer (some ⟨b, 0, none⟩), .int .i64 st] w (GivesCycle w b A n c zs K) := by
  have HC := Lib.hid (srcChance 4 b A n c zs K w (by omega) (by omega) (by omega) h)
  have HN := Lib.hid (fun N K' W (hN : 2 ≤ N) (hN2 : N ≤ 256) (hK' : K' ≤ K + 3) (h : Src W b A n c zs K') => srcNext N b A n c zs K' W hN hN2 (by omega) h)
  clear h
  go_enter Try.func100, Try.ntmps100
  go_wp2_with fail
  refine HC.out.mono ?_
  rintro e w1 ⟨q, rfl, S1, hb1⟩
  clear HC
  have hlt := S1.out.lt
  cases q
  · by_cases h2 : st = 2
    · subst h2
      have HT := Lib.hid (fun W => cell6 (Box.new W 3 #[.int .i64 160, .int .i64 160, .int .i64 128, .int .i64 144, .int .i64 154, .int .i64 240]))
      have HT2 := Lib.hid (fun w2 (hb : Btw b (b + 1) (w1.alloc (.cells #[.int .i64 160, .int .i64 160, .int .i64 128, .int .i64 144, .int .i64 154, .int .i64 240] 3)).drew w2) => cell6 ((Box.new w1 3 #[.int .i64 160, .int .i64 160, .int .i64 128, .int .i64 144, .int .i64 154, .int .i64 240]).drew.btw hb (.inr (by omega))))
      go_wp2_with fail
      go_region_with (first
        | (go_at_call 81; refine (HN.out 6 (K + 1) w1.drew (by omega) (by omega) (by omega) S1.out.drew).mono ?_; rintro e w2 ⟨v, rfl, hv, S2, hb2⟩; have hc := HT.out w2 v hv; have hv6 : (v : Int) < 6 := by omega)
        | (go_at_call 81; refine (HN.out 6 (K + 1) (w1.alloc (.cells #[.int .i64 160, .int .i64 160, .int .i64 128, .int .i64 144, .int .i64 154, .int .i64 240] 3)).drew (by omega) (by omega) (by omega) (S1.out.alloc _).drew).mono ?_; rintro e w2 ⟨v, rfl, hv, S2, hb2⟩; have hc := HT2.out w2 hb2 v hv; have hv6 : (v : Int) < 6 := by omega))
      all_goals (
        go_wp2
        refine bodyPost_ret (v := .tuple #[.int .i64 ((85 : Nat) : Int), .int .i64 (tab6 v : Nat)]) (by simp [results, Try.results100, go_sem]) rfl ?_
        first
        | exact ⟨85, tab6 v, rfl, ⟨by omega, tab6_lt v⟩, Lib.hid ((S2.out.alloc _).mono (by omega)), ((hb1.drew).trans hb2).alloc _⟩
        | exact ⟨85, tab6 v, rfl, ⟨by omega, tab6_lt v⟩, Lib.hid (S2.out.mono (by omega)), ((hb1.alloc _).drew).trans hb2⟩)
    by_cases hs6 : st = 6
    · subst hs6
      have HT := Lib.hid (fun W => cell3 (Box.new W 3 #[.int .i64 48, .int .i64 48, .int .i64 16]))
      have HT2 := Lib.hid (fun w2 (hb : Btw b (b + 1) (w1.alloc (.cells #[.int .i64 48, .int .i64 48, .int .i64 16] 3)).drew w2) => cell3 ((Box.new w1 3 #[.int .i64 48, .int .i64 48, .int .i64 16]).drew.btw hb (.inr (by omega))))
      have HT3 := Lib.hid (fun w2 w3 (hbs : b < w2.heap.size) (hb : Btw b (b + 1) (w2.alloc (.cells #[.int .i64 48, .int .i64 48, .int .i64 16] 3)) w3) => cell3 ((Box.new w2 3 #[.int .i64 48, .int .i64 48, .int .i64 16]).btw hb (.inr (by omega))))
      go_wp2_with fail
      go_region_with (first
        | (go_at_call 81; refine (HN.out 3 (K + 1 + 1) w2 (by omega) (by omega) (by omega) S2.out).mono ?_; rintro e w3 ⟨v, rfl, hv, S3, hb3⟩; first | (have hc := HT2.out w3 (hb2.trans hb3) v hv; have hvi : (v : Int) < 3 := by omega) | (have hc := HT.out w3 v hv; have hvi : (v : Int) < 3 := by omega))
        | (go_at_call 81; refine (HN.out 3 (K + 1 + 1) (w2.alloc (.cells #[.int .i64 48, .int .i64 48, .int .i64 16] 3)) (by omega) (by omega) (by omega) (S2.out.alloc _)).mono ?_; rintro e w3 ⟨v, rfl, hv, S3, hb3⟩; have hc := HT3.out w2 w3 S2.out.lt hb3 v hv; have hvi : (v : Int) < 3 := by omega)
        | (go_at_call 81; refine (HN.out 256 (K + 1) w1.drew (by omega) (by omega) (by omega) S1.out.drew).mono ?_; rintro e w2 ⟨v2, rfl, hv2, S2, hb2⟩)
        | (go_at_call 81; refine (HN.out 256 (K + 1) (w1.alloc (.cells #[.int .i64 48, .int .i64 48, .int .i64 16] 3)).drew (by omega) (by omega) (by omega) (S1.out.alloc _).drew).mono ?_; rintro e w2 ⟨v2, rfl, hv2, S2, hb2⟩))
      all_goals (
        go_wp2
        refine bodyPost_ret (v := .tuple #[.int .i64 v2, .int .i64 (tab3 v : Nat)]) (by simp [results, Try.results100, go_sem]) rfl ?_
        first
        | exact ⟨v2, tab3 v, rfl, ⟨hv2, tab3_lt v⟩, S3, ((hb1.drew).trans hb2).trans hb3⟩
        | exact ⟨v2, tab3 v, rfl, ⟨hv2, tab3_lt v⟩, S3, (((hb1.alloc _).drew).trans hb2).trans hb3⟩
        | exact ⟨v2, tab3 v, rfl, ⟨hv2, tab3_lt v⟩, S3, (((hb1.drew).trans hb2).alloc _).trans hb3⟩
        | exact ⟨v2, tab3 v, rfl, ⟨hv2, tab3_lt v⟩, Lib.hid (S3.out.alloc _), (((hb1.drew).trans hb2).trans hb3).alloc _⟩)
    by_cases hs7 : st = 7
    · subst hs7
      have HT := Lib.hid (fun W => cell2 (Box.new W 3 #[.int .i64 240, .int .i64 0]))
      have HT2 := Lib.hid (fun w2 (hb : Btw b (b + 1) (w1.alloc (.cells #[.int .i64 240, .int .i64 0] 3)).drew w2) => cell2 ((Box.new w1 3 #[.int .i64 240, .int .i64 0]).drew.btw hb (.inr (by omega))))
      have HT3 := Lib.hid (fun w2 w3 (hbs : b < w2.heap.size) (hb : Btw b (b + 1) (w2.alloc (.cells #[.int .i64 240, .int .i64 0] 3)) w3) => cell2 ((Box.new w2 3 #[.int .i64 240, .int .i64 0]).btw hb (.inr (by omega))))
      go_wp2_with fail
      go_region_with (first
        | (go_at_call 81; refine (HN.out 2 (K + 1 + 1) w2 (by omega) (by omega) (by omega) S2.out).mono ?_; rintro e w3 ⟨v, rfl, hv, S3, hb3⟩; first | (have hc := HT2.out w3 (hb2.trans hb3) v hv; have hvi : (v : Int) < 2 := by omega) | (have hc := HT.out w3 v hv; have hvi : (v : Int) < 2 := by omega))
        | (go_at_call 81; refine (HN.out 2 (K + 1 + 1) (w2.alloc (.cells #[.int .i64 240, .int .i64 0] 3)) (by omega) (by omega) (by omega) (S2.out.alloc _)).mono ?_; rintro e w3 ⟨v, rfl, hv, S3, hb3⟩; have hc := HT3.out w2 w3 S2.out.lt hb3 v hv; have hvi : (v : Int) < 2 := by omega)
        | (go_at_call 81; refine (HN.out 256 (K + 1) w1.drew (by omega) (by omega) (by omega) S1.out.drew).mono ?_; rintro e w2 ⟨v2, rfl, hv2, S2, hb2⟩)
        | (go_at_call 81; refine (HN.out 256 (K + 1) (w1.alloc (.cells #[.int .i64 240, .int .i64 0] 3)).drew (by omega) (by omega) (by omega) (S1.out.alloc _).drew).mono ?_; rintro e w2 ⟨v2, rfl, hv2, S2, hb2⟩))
      all_goals (
        go_wp2
        refine bodyPost_ret (v := .tuple #[.int .i64 v2, .int .i64 (tab2 v : Nat)]) (by simp [results, Try.results100, go_sem]) rfl ?_
        first
        | exact ⟨v2, tab2 v, rfl, ⟨hv2, tab2_lt v⟩, S3, ((hb1.drew).trans hb2).trans hb3⟩
        | exact ⟨v2, tab2 v, rfl, ⟨hv2, tab2_lt v⟩, S3, (((hb1.alloc _).drew).trans hb2).trans hb3⟩
        | exact ⟨v2, tab2 v, rfl, ⟨hv2, tab2_lt v⟩, S3, (((hb1.drew).trans hb2).alloc _).trans hb3⟩
        | exact ⟨v2, tab2 v, rfl, ⟨hv2, tab2_lt v⟩, Lib.hid (S3.out.alloc _), (((hb1.drew).trans hb2).trans hb3).alloc _⟩)
    by_cases hs0 : st = 0
    · subst hs0
      go_wp2
      refine bodyPost_ret (v := .tuple #[.int .i64 ((85 : Nat) : Int), .int .i64 ((170 : Nat) : Int)]) (by simp [results, Try.results100, go_sem]) rfl ?_
      exact ⟨85, 170, rfl, ⟨by omega, by omega⟩, Lib.hid (S1.out.mono (by omega)), hb1⟩
    by_cases hs4 : st = 4
    · subst hs4
      go_wp2
      refine bodyPost_ret (v := .tuple #[.int .i64 ((85 : Nat) : Int), .int .i64 ((170 : Nat) : Int)]) (by simp [results, Try.results100, go_sem]) rfl ?_
      exact ⟨85, 170, rfl, ⟨by omega, by omega⟩, Lib.hid (S1.out.mono (by omega)), hb1⟩
    by_cases hs1 : st = 1
    · subst hs1
      go_wp2
      refine bodyPost_ret (v := .tuple #[.int .i64 ((42 : Nat) : Int), .int .i64 ((85 : Nat) : Int)]) (by simp [results, Try.results100, go_sem]) rfl ?_
      exact ⟨42, 85, rfl, ⟨by omega, by omega⟩, Lib.hid (S1.out.mono (by omega)), hb1⟩
    by_cases hs5 : st = 5
    · subst hs5
      go_wp2
      refine bodyPost_ret (v := .tuple #[.int .i64 ((42 : Nat) : Int), .int .i64 ((85 : Nat) : Int)]) (by simp [results, Try.results100, go_sem]) rfl ?_
      exact ⟨42, 85, rfl, ⟨by omega, by omega⟩, Lib.hid (S1.out.mono (by omega)), hb1⟩
    have g0 : (st == 0) = false := by simp [hs0]
    have g1 : (st == 1) = false := by simp [hs1]
    have g2 : (st == 2) = false := by simp [h2]
    have g4 : (st == 4) = false := by simp [hs4]
    have g5 : (st == 5) = false := by simp [hs5]
    have g6 : (st == 6) = false := by simp [hs6]
    have g7 : (st == 7) = false := by simp [hs7]
    clear hs0 hs1 h2 hs4 hs5 hs6 hs7
    go_wp2_with fail
    refine (HN.out 256 (K + 1) w1 (by omega) (by omega) (by omega) S1.out).mono ?_
    rintro e w2 ⟨v2, rfl, hv2, S2, hb2⟩
    go_wp2_with fail
    refine (HN.out 256 (K + 1 + 1) w2 (by omega) (by omega) (by omega) S2.out).mono ?_
    rintro e w3 ⟨v3, rfl, hv3, S3, hb3⟩
    go_wp2
    refine bodyPost_ret (v := .tuple #[.int .i64 v2, .int .i64 v3]) (by simp [results, Try.results100, go_sem]) rfl ?_
    exact ⟨v2, v3, rfl, ⟨hv2, hv3⟩, S3, (hb1.trans hb2).trans hb3⟩
  · go_wp2_with fail
    refine (HN.out 256 (K + 1) w1 (by omega) (by omega) (by omega) S1.out).mono ?_
    rintro e w2 ⟨v2, rfl, hv2, S2, hb2⟩
    go_wp2_with fail
    refine (HN.out 256 (K + 1 + 1) w2 (by omega) (by omega) (by omega) S2.out).mono ?_
    rintro e w3 ⟨v3, rfl, hv3, S3, hb3⟩
    go_wp2
    refine bodyPost_ret (v := .tuple #[.int .i64 v2, .int .i64 v3]) (by simp [results, Try.results100, go_sem]) rfl ?_
    exact ⟨v2, v3, rfl, ⟨hv2, hv3⟩, S3, (hb1.trans hb2).trans hb3⟩


/-- A valid flash that lies in memory of its own from lo on. -/
structure FK (lo R D : Nat) (A : Option Addr) (c : Nat) (C : Option Addr) (d : Nat) (st : Int) (zs : List Int) (gs : List Bool) (w : World) : Prop where
  x : Box w D 26 #[.slice A 256 c, .slice C 16 d, .int .i64 st]
  y : Box w R 26 #[.slice none 0 0, .slice none 0 0, .int .i64 0]
  s : OwnI w lo w.heap.size A zs
  r : OwnB w lo w.heap.size C gs
theorem FK.btw {lo b R D : Nat} {A : Option Addr} {c : Nat} {C : Option Addr} {d : Nat} {st : Int} {zs : List Int} {gs : List Bool} {w w' : World} (h : FK lo R D A c C d st zs gs w) (hb : Btw b (b + 1) w w') (h1 : b < lo) (h2 : lo ≤ R) (h3 : lo ≤ D) : FK lo R D A c C d st zs gs w' :=
  ⟨h.x.btw hb (.inr (by omega)), h.y.btw hb (.inr (by omega)), (h.s.btw hb (.inr (by omega))).wideB (Nat.le_refl _) hb.size, (h.r.btw hb (.inr (by omega))).wide (Nat.le_refl _) hb.size⟩
theorem FK.step {lo R D : Nat} {A : Option Addr} {c : Nat} {C : Option Addr} {d : Nat} {st : Int} {zs : List Int} {gs : List Bool} {w w' : World} (h : FK lo R D A c C d st zs gs w) (hb : Below w.heap.size w w') : FK lo R D A c C d st zs gs w' :=
  ⟨h.x.step hb, h.y.step hb, (h.s.btw (Btw.of_below hb 0 0) (.inr (Nat.zero_le _))).wideB (Nat.le_refl _) hb.size, (h.r.btw (Btw.of_below hb 0 0) (.inr (Nat.zero_le _))).wide (Nat.le_refl _) hb.size⟩
theorem FK.store {lo R D : Nat} {A : Option Addr} {c : Nat} {C : Option Addr} {d : Nat} {st : Int} {zs : List Int} {gs : List Bool} {w : World} (h : FK lo R D A c C d st zs gs w) (hne : R ≠ D) {A2 : Option Addr} {c2 : Nat} {C2 : Option Addr} {d2 : Nat} {st2 : Int} {zs2 : List Int} {gs2 : List Bool} (S2 : OwnI w lo w.heap.size A2 zs2) (R2 : OwnB w lo w.heap.size C2 gs2) :
    FK lo R D A2 c2 C2 d2 st2 zs2 gs2 (((w.setCell ⟨D, 0, none⟩ (.slice A2 256 c2)).setCell ⟨D, 1, none⟩ (.slice C2 16 d2)).setCell ⟨D, 2, none⟩ (.int .i64 st2)) :=
  ⟨h.x.flash3 rfl _ _ _, h.y.far3 hne _ _ _, by rw [size3]; exact S2.far3 h.x _ _ _, by rw [size3]; exact R2.far3 h.x _ _ _⟩
theorem btw_below {lo hi B : Nat} {w w1 w2 : World} (h : Btw lo hi w w1) (hb : Below B w1 w2) (hB : w.heap.size ≤ B) : Btw lo hi w w2 :=
  ⟨hb.os.trans h.os, hb.tape.trans h.tape, hb.output.trans h.output, Nat.le_trans h.size hb.size, fun k hk ho => (hb.block k (Nat.lt_of_lt_of_le hk hB)).trans (h.block k hk ho)⟩
theorem ok_newFlash : okFlash newZ zG 0 = true := by decide +kernel
theorem ok_cycle {zs : List Int} {gs : List Bool} {st : Int} (h : okFlash zs gs st = true) (k v : Nat) (hv : v < 256) : okFlash (cycZ zs gs st k v) (cycG gs st k) (nextS st k v) = true := by
  obtain ⟨h1, h2, h3, h4⟩ := okFlash_len h
  exact okFlash_mk (by rw [cycZ_len]; exact h1) (by rw [cycG_len]; exact h2) (nextS_in _ _ _) (cycZ_range h4 hv)

/-- A drawn flash: valid, of its own. -/
def GivesFlashX (w : World) (R : World → Prop) (e : Ending) (w' : World) : Prop :=
  ∃ zs gs st A c C d, Hid (okFlash zs gs st = true) ∧ e = .returned (.agg #[.slice A 256 c, .slice C 16 d, .int .i64 st]) ∧ Hid (OwnI w' w.heap.size w'.heap.size A zs) ∧ Hid (OwnB w' w.heap.size w'.heap.size C gs) ∧ Hid (256 ≤ c) ∧ Hid (R w')
/-- What the loop keeps. -/
def FlashInv (w : World) (b R D : Nat) (A : Option Addr) (n c : Nat) (zs : List Nat) (K i : Nat) (wr : World) : Prop :=
  ∃ A' c' C' d' st zs' gs', Hid (FK w.heap.size R D A' c' C' d' st zs' gs' wr) ∧ Hid (okFlash zs' gs' st = true) ∧ Hid (Src wr b A n c zs (K + 1 + 3 * (40 - i))) ∧ Btw b (b + 1) w wr

set_option maxRecDepth 100000 in
set_option maxHeartbeats 4000000 in
theorem srcFlash (b : Nat) (A : Option Addr) (n c : Nat) (zs : List Nat) (K : Nat) (w : World) (hn : n ≤ maxLen) (hK : K ≤ 1000) (h : Src w b A n c zs K) :
    Calls Try.prog 80 #[.pointer (some ⟨b, 0, none⟩)] w (GivesFlashX w (fun w' => Src w' b A n c zs (K + 121) ∧ Btw b (b + 1) w w')) := by
  have hlt : b < w.heap.size := h.lt
  obtain ⟨W0, hW0⟩ : ∃ W0, W0 = w.alloc (.cells #[.slice none 0 0, .slice none 0 0, .int .i64 0] 26) := ⟨_, rfl⟩
  have hb0 : Below w.heap.size w W0 := by rw [hW0]; exact alloc_below _ _
  have HY0 : Hid (Box W0 w.heap.size 26 #[.slice none 0 0, .slice none 0 0, .int .i64 0]) := Lib.hid (by rw [hW0]; exact Box.new _ _ _)
  have HS0 := Lib.hid (h.below hb0 hlt)
  have HW0 := Lib.hid hW0
  have HSi := Lib.hid (fun W (h : Src W b A n c zs K) => srcSize b A n c zs K W hn h)
  clear h hW0 hn
  go_enter Try.func80, Try.ntmps80
  go_wp2_with fail
  rw [← HW0.out]
  refine (specNewFlash W0).mono ?_
  rintro e w1 ⟨A1, n1, c1, C1, m1, d1, rfl, L1, M1, S1, R1, hb1⟩
  obtain rfl : n1 = 256 := by have := L1.out; rw [newZ_len] at this; exact this.symm
  obtain rfl : m1 = 16 := by have := M1.out; rw [zG_len] at this; exact this.symm
  have hsz : w.heap.size + 1 ≤ w1.heap.size := by have := HY0.out.lt; have := hb1.size; omega
  have HB1 := Lib.hid (bt hb0 hb1)
  have HY1 := Lib.hid (HY0.out.step hb1)
  have HS1 := Lib.hid (HS0.out.below hb1 (by have := HY0.out.lt; omega))
  have hba := alloc_below w1 (.cells #[.slice A1 256 c1, .slice C1 16 d1, .int .i64 0] 26)
  have HFK : Hid (FK w.heap.size w.heap.size w1.heap.size A1 c1 C1 d1 0 newZ zG (w1.alloc (.cells #[.slice A1 256 c1, .slice C1 16 d1, .int .i64 0] 26))) := Lib.hid ⟨Box.new _ _ _, HY1.out.step hba, ((S1.out.btw (Btw.of_below hba 0 0) (.inr (Nat.zero_le _))).wideB hb0.size hba.size), ((R1.out.btw (Btw.of_below hba 0 0) (.inr (Nat.zero_le _))).wide hb0.size hba.size)⟩
  have HS2 := Lib.hid (HS1.out.below hba (by omega))
  have HB2 : Hid (Btw b (b + 1) w (w1.alloc (.cells #[.slice A1 256 c1, .slice C1 16 d1, .int .i64 0] 26))) := Lib.hid (Btw.of_below (bt HB1.out hba) b (b + 1))
  clear HY0 HS0 HW0 HY1 HS1 HB1 S1 R1 hba hb0 hb1 W0 L1 M1
  go_wp2_with fail
  generalize w1.alloc (.cells #[.slice A1 256 c1, .slice C1 16 d1, .int .i64 0] 26) = w2 at HFK HS2 HB2 ⊢
  refine (HSi.out w2 HS2.out).mono ?_
  rintro e w2' ⟨v0, rfl, ⟨hv0, hv1⟩, rfl⟩
  have HNx := Lib.hid (srcNext (v0 + 8) b A n c zs K w2 (by omega) (by omega) (by omega) HS2.out)
  rw [show ((v0 + 8 : Nat) : Int) = (v0 : Int) + 8 by omega] at HNx
  go_wp2_with fail
  refine HNx.out.mono ?_
  rintro e w3 ⟨v, rfl, hv, S3, hb3⟩
  have HFK3 := Lib.hid (HFK.out.btw hb3 hlt (Nat.le_refl _) (by omega))
  have HB3 := Lib.hid (HB2.out.trans hb3)
  obtain ⟨D, hD⟩ : ∃ D, D = w1.heap.size := ⟨_, rfl⟩
  rw [← hD] at HFK3 ⊢
  have hDl : w.heap.size + 1 ≤ D := by omega
  have hv38 : v ≤ 40 := by omega
  clear HFK HS2 HB2 hb3 hD hsz w1 w2 HSi hv0 hv1 hv HNx
  go_wp2
  go_loopw [4] (fun q wr => ∃ i : Nat, i ≤ 40 ∧ q = .int .i64 i ∧ FlashInv w b w.heap.size D A n c zs K i wr) (fun q _ => (intOf q).toNat)
  case atStart => exact ⟨v, hv38, rfl, A1, c1, C1, d1, 0, newZ, zG, HFK3, Lib.hid ok_newFlash, Lib.hid (S3.out.mono (by omega)), HB3.out⟩
  case round =>
    clear HFK3 HB3 S3 hv38
    obtain ⟨i, hi8, rfl, A', c', C', d', st, zs', gs', HF, HO, HS, hbw⟩ := hrel
    have f0 := HF.out.x.cell 0 rfl
    have f1 := HF.out.x.cell 1 rfl
    have f2 := HF.out.x.cell 2 rfl
    by_cases hi : 0 < i
    · have hi' : (0 : Int) < (i : Int) := by omega
      go_wp2_with fail
      refine (srcCycle st b A n c zs (K + 1 + 3 * (40 - i)) wr (by omega) HS.out).mono ?_
      rintro e w4 ⟨k, u, rfl, hku, S4, hb4⟩
      have F4 := Lib.hid (HF.out.btw hb4 hlt (Nat.le_refl _) (by omega))
      have HB4 := Lib.hid (hbw.trans hb4)
      clear HF HS hbw hb4 f0 f1 f2
      have f0 := F4.out.x.cell 0 rfl
      have f1 := F4.out.x.cell 1 rfl
      have f2 := F4.out.x.cell 2 rfl
      have HW := Lib.hid (l03Write0 A' C' c' d' k u st zs' gs' w4 hku.1 hku.2 (okFlash_len HO.out).2.2.1 (okFlash_len HO.out).2.2.2 ⟨⟨(okFlash_len HO.out).1, (okFlash_len HO.out).2.1⟩, F4.out.s.reads, F4.out.r.reads⟩)
      have HO5 := Lib.hid (ok_cycle HO.out k u hku.2)
      generalize cycZ zs' gs' st k u = zr at HW HO5
      generalize cycG gs' st k = gr at HW HO5
      generalize nextS st k u = sr at HW HO5
      clear HO
      go_wp2_with fail
      refine HW.out.mono ?_
      intro e w5 hW5
      have hsz4 : w.heap.size ≤ w4.heap.size := HB4.out.size
      have h5 : ∃ A5 c5 C5 d5, e = .returned (.agg #[.slice A5 256 c5, .slice C5 16 d5, .int .i64 sr]) ∧ OwnI w5 w.heap.size w5.heap.size A5 zr ∧ OwnB w5 w.heap.size w5.heap.size C5 gr ∧ Below w4.heap.size w4 w5 := by
        rcases hW5 with ⟨A5, n5, c5, C5, m5, d5, rfl, L5, M5, S5, R5, hb5⟩ | ⟨rfl, rfl, rfl, hb5⟩
        · obtain rfl : n5 = 256 := by have := L5.out; have := (okFlash_len HO5.out).1; omega
          obtain rfl : m5 = 16 := by have := M5.out; have := (okFlash_len HO5.out).2.1; omega
          exact ⟨A5, c5, C5, d5, rfl, S5.out.wideB hsz4 (Nat.le_refl _), R5.out.wide hsz4 (Nat.le_refl _), hb5⟩
        · exact ⟨A', c', C', d', rfl, (F4.out.step hb5).s, (F4.out.step hb5).r, hb5⟩
      clear hW5
      obtain ⟨A5, c5, C5, d5, rfl, S5, R5, hb5⟩ := h5
      have F5 := Lib.hid (F4.out.step hb5)
      have q1 : Below w.heap.size w5 (((w5.setCell ⟨D, 0, none⟩ (.slice A5 256 c5)).setCell ⟨D, 1, none⟩ (.slice C5 16 d5)).setCell ⟨D, 2, none⟩ (.int .i64 sr)) := (((Below.refl _ _).setCell (p := ⟨D, 0, none⟩) (by show w.heap.size ≤ D; omega) _).setCell (p := ⟨D, 1, none⟩) (by show w.heap.size ≤ D; omega) _).setCell (p := ⟨D, 2, none⟩) (by show w.heap.size ≤ D; omega) _
      have F6 := Lib.hid (F5.out.store (by omega) (c2 := c5) (d2 := d5) (st2 := sr) S5 R5)
      have S6 := Lib.hid ((S4.out.below hb5 (by omega)).below q1 hlt)
      have B6 := Lib.hid (btw_below (btw_below HB4.out hb5 hsz4) q1 (Nat.le_refl _))
      have g0 := F5.out.x.cell 0 rfl
      have g1 := F5.out.x.cell 1 rfl
      have g2 := F5.out.x.cell 2 rfl
      have g0z := F5.out.x.frozen 0
      have g1z := F5.out.x.frozen 1
      have g2z := F5.out.x.frozen 2
      clear f0 f1 f2 F4 F5 S4 HB4 S5 R5 hb5 q1 hsz4 HW
      go_wp2
      go_roundw
      case rel => exact ⟨i - 1, by omega, by go_num, A5, c5, C5, d5, sr, zr, gr, F6, HO5, Lib.hid (S6.out.mono (by omega)), B6.out⟩
      case measure => simp [intOf]; omega
    · have hi' : ¬ (0 : Int) < (i : Int) := by omega
      have HC := Lib.hid (l03OwnC A' C' 256 c' 16 d' st zs' gs' wr (okFlash_len HO.out).1 (okFlash_len HO.out).2.1 rfl rfl HF.out.s.reads HF.out.r.reads)
      go_wp2_with fail
      refine HC.out.mono ?_
      rintro e w2 ⟨A2, n2, c2, C2, m2, d2, rfl, L2, M2, S2, R2, KC, hb2⟩
      obtain rfl : n2 = 256 := by have := L2.out; have := (okFlash_len HO.out).1; omega
      obtain rfl : m2 = 16 := by have := M2.out; have := (okFlash_len HO.out).2.1; omega
      have Y2 := Lib.hid (HF.out.y.step hb2)
      have g0 := Y2.out.cell 0 rfl
      have g1 := Y2.out.cell 1 rfl
      have g2 := Y2.out.cell 2 rfl
      have g0z := Y2.out.frozen 0
      have g1z := Y2.out.frozen 1
      have g2z := Y2.out.frozen 2
      clear f0 f1 f2 HC
      go_wp2
      refine bodyPost_ret (v := .agg #[.slice A2 256 c2, .slice C2 16 d2, .int .i64 st]) (by simp [results, Try.results80, go_sem, g0, g1, g2]) rfl ?_
      have hszr : w.heap.size ≤ wr.heap.size := hbw.size
      have q1 : Below w.heap.size w2 (((w2.setCell ⟨w.heap.size, 0, none⟩ (.slice A2 256 c2)).setCell ⟨w.heap.size, 1, none⟩ (.slice C2 16 d2)).setCell ⟨w.heap.size, 2, none⟩ (.int .i64 st)) := (((Below.refl _ _).setCell (p := ⟨w.heap.size, 0, none⟩) (Nat.le_refl _) _).setCell (p := ⟨w.heap.size, 1, none⟩) (Nat.le_refl _) _).setCell (p := ⟨w.heap.size, 2, none⟩) (Nat.le_refl _) _
      exact ⟨zs', gs', st, A2, c2, C2, d2, HO, rfl, Lib.hid (by rw [size3]; exact (S2.out.far3 Y2.out _ _ _).wideB hszr (Nat.le_refl _)), Lib.hid (by rw [size3]; exact (R2.out.far3 Y2.out _ _ _).wide hszr (Nat.le_refl _)), KC, Lib.hid ⟨((HS.out.below hb2 (by omega)).below q1 hlt).mono (by omega), btw_below (btw_below hbw hb2 hszr) q1 (Nat.le_refl _)⟩⟩
end Go.Proofs.Ytdanefhfngmipaa

/- The source's program: a row of ints, at most 256. Written by gen_prog.py. -/
namespace Go.Proofs.Ytdanefhfngmipaa
open Go.RowKit

/-- A row that grows while the source is drawn from. -/
structure PI (w : World) (b : Nat) (A : Option Addr) (n c : Nat) (zs : List Nat) (K k : Nat) (A' : Option Addr) (c' : Nat) (wr : World) : Prop where
  btw : Btw b (b + 1) w wr
  s : Src wr b A n c zs K
  i : ∃ ps : List Int, ps.length = k ∧ wr.ownsRow w.heap.size 3 1 (.slice A' k c') k (ps.map (Value.int .i64))
  lt : b < w.heap.size
  sz : w.heap.size + 1 ≤ wr.heap.size
section
variable {w wr w2 : World} {b : Nat} {A : Option Addr} {n c : Nat} {zs : List Nat} {K k : Nat} {A' : Option Addr} {c' : Nat}
theorem PI.next {K2 : Nat} (h : PI w b A n c zs K k A' c' wr) (S : Src w2 b A n c zs K2) (hb : Btw b (b + 1) wr w2) : PI w b A n c zs K2 k A' c' w2 := by
  obtain ⟨ps, hl, hr⟩ := h.i
  exact ⟨h.btw.trans hb, S, ⟨ps, hl, rowv_keep hr (fun k hk hk2 => hb.block k hk2 (.inr (by have := h.lt; omega)))⟩, h.lt, Nat.le_trans h.sz hb.size⟩
theorem PI.step (h : PI w b A n c zs K k A' c' wr) (hb : Below wr.heap.size wr w2) : PI w b A n c zs K k A' c' w2 := by
  obtain ⟨ps, hl, hr⟩ := h.i
  exact ⟨btw_below h.btw hb h.btw.size, h.s.below hb h.s.lt, ⟨ps, hl, rowv_below hr hb⟩, h.lt, Nat.le_trans h.sz hb.size⟩
theorem PI.mono {K2 : Nat} (h : PI w b A n c zs K k A' c' wr) (hk : K ≤ K2) : PI w b A n c zs K2 k A' c' wr := ⟨h.btw, h.s.mono hk, h.i, h.lt, h.sz⟩
set_option maxRecDepth 100000 in
theorem wpList_app_ints {ops : Array Oper} {rest : List Oper} {o : Oper} {a : Act} {Q : Exit → Act → World → Prop} {cs : Array Value} (hgd : o.guard = none) (s x : Operand)
    (ho : o.op = .call { callee := .builtin .append, args := #[s, x], argTypes := #[23, 23] }) (I : PI w b A n c zs K k A' c' wr) (us : List Int) (hcs : cs = (us.map (Value.int .i64)).toArray) (m d : Nat) (hm : us.length = m)
    (hs : a.eval s = .slice A' k c') (hx : a.eval x = .slice (some ⟨wr.heap.size, 0, none⟩) m d) (hk : k + m ≤ 1000)
    (h : ∀ A2 c2 w2, Hid (PI w b A n c zs K (k + m) A2 c2 w2) → wpList Try.prog ops Q rest (a.put o.dst (.slice A2 (k + m) c2)) w2) : wpList Try.prog ops Q (o :: rest) a (wr.alloc (.cells cs 3)) := by
  obtain ⟨ps, hl, hr⟩ := I.i
  have hba := alloc_below wr (.cells cs 3)
  have hX := Box.new wr 3 cs
  refine wpList_app_many hgd s x 23 3 ho (.int .i64 0) 1 8 elemInt Try.underlying23 w.heap.size (.slice A' k c') k (ps.map (Value.int .i64)) hs (rowv_below hr hba) ⟨wr.heap.size, 0, none⟩ m d hx (us.map (Value.int .i64)) (by simp [hm]) (fun j u hj => ?_) (fun u hu => ?_) (by unfold maxLen; omega) (by omega) (by have := I.sz; have := hba.size; omega) (fun A2 c2 w2 hR _ _ hb => ?_)
  · rw [addr_add, Nat.zero_add]; exact hX.cell j (by rw [hcs]; simpa using hj)
  · obtain ⟨z, _, rfl⟩ := List.mem_map.1 hu; rfl
  · have hbt : Btw b (b + 1) w w2 := btw_below (btw_below I.btw hba I.btw.size) hb (Nat.le_refl _)
    exact h A2 c2 w2 (Lib.hid ⟨hbt, (I.s.below hba I.s.lt).below hb I.lt, ⟨ps ++ us, by simp [hl, hm], by rw [List.map_append]; exact hR⟩, I.lt, by have := I.sz; have := hba.size; have := hb.size; omega⟩)
end

set_option maxRecDepth 100000 in
set_option maxHeartbeats 4000000 in
theorem srcSize20 (b : Nat) (A : Option Addr) (n c : Nat) (zs : List Nat) (K : Nat) (w : World) (hn : n ≤ maxLen) (h : Src w b A n c zs K) :
    Calls Try.prog 98 #[.pointer (some ⟨b, 0, none⟩), .int .i64 20] w fun e w' => ∃ v : Nat, e = .returned (.int .i64 v) ∧ (1 ≤ v ∧ v ≤ 20) ∧ w = w' := by
  unfold maxLen at hn
  obtain ⟨k, sd, X, q2, q3, q4, q5⟩ := h
  have x0 := X.cell 0 rfl
  clear X q5
  go_enter Try.func98, Try.ntmps98
  go_wp2
  · refine bodyPost_ret (v := .int .i64 ((20 : Nat) : Int)) (by simp [results, Try.results98, go_sem]) rfl ?_
    exact ⟨20, rfl, by omega, rfl⟩
  · refine bodyPost_ret (v := .int .i64 ((1 + n / 12 : Nat) : Int)) (by simp [results, Try.results98, go_sem]) rfl ?_
    exact ⟨_, rfl, by omega, rfl⟩

/-- A drawn row of ints. -/
def GivesProg (w : World) (R : World → Prop) (e : Ending) (w' : World) : Prop :=
  ∃ ps A c, Hid (ps.length ≤ 256) ∧ e = .returned (.slice A ps.length c) ∧ Hid (OwnI w' w.heap.size w'.heap.size A ps) ∧ Hid (R w')

set_option maxRecDepth 100000 in
set_option maxHeartbeats 16000000 in
theorem srcProgram (b : Nat) (A : Option Addr) (n c : Nat) (zs : List Nat) (K : Nat) (w : World) (hn : n ≤ maxLen) (hK : K ≤ 1000) (h : Src w b A n c zs K) :
    Calls Try.prog 79 #[.pointer (some ⟨b, 0, none⟩)] w (GivesProg w (fun w' => Src w' b A n c zs (K + 200) ∧ Btw b (b + 1) w w')) := by
  have hlt : b < w.heap.size := h.lt
  have hb0 := alloc_below w (.cells #[] 3)
  have HI0 : Hid (PI w b A n c zs K 0 (some ⟨w.heap.size, 0, none⟩) 0 (w.alloc (.cells #[] 3))) := Lib.hid ⟨Btw.of_below hb0 _ _, h.below hb0 hlt, ⟨[], rfl, rowv_empty (Nat.le_refl _) (Box.new _ _ _)⟩, hlt, by simp⟩
  have HSi := Lib.hid (fun W (h : Src W b A n c zs K) => srcSize20 b A n c zs K W hn h)
  have HNx := Lib.hid (fun N K W (h1 : 2 ≤ N) (h2 : N ≤ 256) (h3 : K ≤ 10000) (h : Src W b A n c zs K) => srcNext N b A n c zs K W h1 h2 (by omega) h)
  have HCh := Lib.hid (fun K W (h3 : K ≤ 10000) (h : Src W b A n c zs K) => srcChance 6 b A n c zs K W (by omega) (by omega) (by omega) h)
  clear h hn
  go_enter Try.func79, Try.ntmps79
  go_wp2_with fail
  generalize w.alloc (.cells #[] 3) = w1 at HI0 hb0 ⊢
  refine (HSi.out w1 HI0.out.s).mono ?_
  rintro e w1' ⟨v0, rfl, ⟨hv0, hv1⟩, rfl⟩
  have HN1 := Lib.hid (HNx.out (v0 + 6) K w1 (by omega) (by omega) (by omega) HI0.out.s)
  rw [show ((v0 + 6 : Nat) : Int) = (v0 : Int) + 6 by omega] at HN1
  go_wp2_with fail
  refine HN1.out.mono ?_
  rintro e w2 ⟨v, rfl, hv, S2, hb2⟩
  have HI2 := Lib.hid (HI0.out.next S2.out hb2)
  have hv25 : v ≤ 25 := by omega
  clear HI0 HSi HN1 hb0 hb2 S2 hv hv0 hv1 w1
  go_wp2
  go_loopw [3, 4] (fun s q wr => ∃ (i k : Nat) (A' : Option Addr) (c' : Nat), i ≤ 25 ∧ k + 3 * i ≤ 75 ∧ q = .int .i64 i ∧ s = .slice A' k c' ∧ Hid (PI w b A n c zs (K + 1 + 5 * (25 - i)) k A' c' wr)) (fun _ q _ => (intOf q).toNat)
  case atStart => exact ⟨v, 0, _, _, hv25, by omega, rfl, rfl, Lib.hid (HI2.out.mono (by omega))⟩
  case round =>
    clear HI2 hv25
    obtain ⟨i, k, A', c', hi25, hk75, rfl, rfl, I⟩ := hrel
    by_cases hi : 0 < i
    · have hi' : (0 : Int) < (i : Int) := by omega
      obtain ⟨K', hK'⟩ : ∃ K', K' = K + 1 + 5 * (25 - i) := ⟨_, rfl⟩
      rw [← hK'] at I
      have hKb : K' ≤ 5000 := by omega
      have HKr : Hid (K' + 5 ≤ K + 1 + 5 * (25 - (i - 1))) := Lib.hid (by omega)
      clear hK'
      have HN1 := Lib.hid (HNx.out 22 K' wr (by omega) (by omega) (by omega) I.out.s)
      go_wp2_with fail
      refine HN1.out.mono ?_
      rintro e w3 ⟨op, rfl, hop, S3, hb3⟩
      have I3 := Lib.hid (I.out.next S3.out hb3)
      have HN2 := Lib.hid (HNx.out 4 (K' + 1) w3 (by omega) (by omega) (by omega) I3.out.s)
      clear HN1 S3 hb3 I
      go_wp2_with fail
      refine HN2.out.mono ?_
      rintro e w4 ⟨rg, rfl, hrg, S4, hb4⟩
      have I4 := Lib.hid (I3.out.next S4.out hb4)
      clear HN2 S4 hb4 I3
      have hkk : k ≤ 72 := by omega
      have g1 : IntKind.i64.wrap (8 * (op : Int)) = 8 * (op : Int) := IntWalk.i64_in _ (by omega)
      have g2 : IntKind.i64.wrap (8 * (op : Int) + (rg : Int)) = 8 * (op : Int) + (rg : Int) := IntWalk.i64_in _ (by omega)
      have h7 : op < 5 ∨ op = 5 ∨ (op = 6 ∨ op = 7) ∨ (8 ≤ op ∧ op ≤ 14) ∨ (15 ≤ op ∧ op ≤ 18) ∨ op = 19 ∨ (op = 20 ∨ op = 21) := by omega
      rcases h7 with h7 | h7 | h7 | h7 | h7 | h7 | h7
      · have qlt5 : (op : Int) < 5 := by omega
        have qgt14 : ¬ (14 : Int) < (op : Int) := by omega
        have qe6 : ((op : Int) == 6) = false := by simp; omega
        have qe7 : ((op : Int) == 7) = false := by simp; omega
        have qge15 : ¬ (15 : Int) ≤ (op : Int) := by omega
        have qe5 : ((op : Int) == 5) = false := by simp; omega
        have qe20 : ((op : Int) == 20) = false := by simp; omega
        have qe21 : ((op : Int) == 21) = false := by simp; omega
        clear h7
        go_wp2_with (at_builtin; refine wpList_app_ints rfl (.tmp 27) (.tmp 32) rfl I4.out [_] rfl 1 1 rfl rfl rfl (by omega) ?_)
        intro A5 c5 w5 I5
        go_wp2
        go_roundw
        case rel => exact ⟨i - 1, _, _, _, by omega, by omega, by go_num, rfl, Lib.hid (I5.out.mono (by have := HKr.out; omega))⟩
        case measure => simp [intOf]; omega
      · have qlt5 : ¬ (op : Int) < 5 := by omega
        have qgt14 : ¬ (14 : Int) < (op : Int) := by omega
        have qe6 : ((op : Int) == 6) = false := by simp; omega
        have qe7 : ((op : Int) == 7) = false := by simp; omega
        have qge15 : ¬ (15 : Int) ≤ (op : Int) := by omega
        have qe5 : ((op : Int) == 5) = true := by simp; omega
        have qe20 : ((op : Int) == 20) = false := by simp; omega
        have qe21 : ((op : Int) == 21) = false := by simp; omega
        clear h7
        go_wp2_with (at_builtin; refine wpList_app_ints rfl (.tmp 27) (.tmp 32) rfl I4.out [_] rfl 1 1 rfl rfl rfl (by omega) ?_)
        intro A5 c5 w5 I5
        have HN3 := Lib.hid (HNx.out 4 (K' + 2) w5 (by omega) (by omega) (by omega) I5.out.s)
        go_wp2_with fail
        refine HN3.out.mono ?_
        rintro e w6 ⟨x, rfl, hx, S6, hb6⟩
        have I6 := Lib.hid (I5.out.next S6.out hb6)
        have HN4 := Lib.hid (HNx.out 256 (K' + 3) w6 (by omega) (by omega) (by omega) I6.out.s)
        clear HN3 S6 hb6 I5
        go_wp2_with fail
        refine HN4.out.mono ?_
        rintro e w7 ⟨y, rfl, hy, S7, hb7⟩
        have I7 := Lib.hid (I6.out.next S7.out hb7)
        have hba7 := alloc_below w7 (.cells #[.int .i64 (x : Int), .int .i64 (y : Int)] 3)
        have I7a := Lib.hid (I7.out.step hba7)
        have HN5 := Lib.hid (HNx.out 2 (K' + 4) _ (by omega) (by omega) (by omega) I7a.out.s)
        have X7 := Lib.hid (Box.new w7 3 #[.int .i64 (x : Int), .int .i64 (y : Int)])
        have HB7 : Hid (b < w7.heap.size) := Lib.hid I7.out.s.lt
        clear HN4 S7 hb7 I6 I7 hba7
        go_wp2_with fail
        refine HN5.out.mono ?_
        rintro e w8 ⟨z, rfl, hz, S8, hb8⟩
        have I8 := Lib.hid (I7a.out.next S8.out hb8)
        have X8 := X7.out.btw hb8 (.inr (by have := HB7.out; omega))
        have x0 := X8.cell 0 rfl
        have x1 := X8.cell 1 rfl
        clear HN5 S8 hb8 I7a X7 X8
        have hz2 : z = 0 ∨ z = 1 := by omega
        rcases hz2 with rfl | rfl
        · go_wp2_with (at_builtin; refine wpList_app_ints rfl (.tmp 71) (.tmp 81) rfl I8.out [_] rfl 1 1 rfl rfl rfl (by omega) ?_)
          intro A9 c9 w9 I9
          go_wp2
          go_roundw
          case rel => exact ⟨i - 1, _, _, _, by omega, by omega, by go_num, rfl, Lib.hid (I9.out.mono (by have := HKr.out; omega))⟩
          case measure => simp [intOf]; omega
        · go_wp2_with (at_builtin; refine wpList_app_ints rfl (.tmp 71) (.tmp 81) rfl I8.out [_] rfl 1 1 rfl rfl rfl (by omega) ?_)
          intro A9 c9 w9 I9
          go_wp2
          go_roundw
          case rel => exact ⟨i - 1, _, _, _, by omega, by omega, by go_num, rfl, Lib.hid (I9.out.mono (by have := HKr.out; omega))⟩
          case measure => simp [intOf]; omega
      · rcases h7 with rfl | rfl
        · go_wp2_with (at_builtin; refine wpList_app_ints rfl (.tmp 27) (.tmp 32) rfl I4.out [_] rfl 1 1 rfl rfl rfl (by omega) ?_)
          intro A5 c5 w5 I5
          have HN3 := Lib.hid (HNx.out 256 (K' + 2) w5 (by omega) (by omega) (by omega) I5.out.s)
          go_wp2_with fail
          refine HN3.out.mono ?_
          rintro e w6 ⟨x, rfl, hx, S6, hb6⟩
          have I6 := Lib.hid (I5.out.next S6.out hb6)
          have HN4 := Lib.hid (HNx.out 3 (K' + 3) w6 (by omega) (by omega) (by omega) I6.out.s)
          clear HN3 S6 hb6 I5
          go_wp2_with fail
          refine HN4.out.mono ?_
          rintro e w7 ⟨y, rfl, hy, S7, hb7⟩
          have I7 := Lib.hid (I6.out.next S7.out hb7)
          clear HN4 S7 hb7 I6
          go_wp2_with (at_builtin; refine wpList_app_ints rfl (.tmp 41) (.tmp 46) rfl I7.out [_, _] rfl 2 2 rfl rfl rfl (by omega) ?_)
          intro A8 c8 w8 I8
          go_wp2
          go_roundw
          case rel => exact ⟨i - 1, _, _, _, by omega, by omega, by go_num, rfl, Lib.hid (I8.out.mono (by have := HKr.out; omega))⟩
          case measure => simp [intOf]; omega
        · go_wp2_with (at_builtin; refine wpList_app_ints rfl (.tmp 27) (.tmp 32) rfl I4.out [_] rfl 1 1 rfl rfl rfl (by omega) ?_)
          intro A5 c5 w5 I5
          have HN3 := Lib.hid (HNx.out 256 (K' + 2) w5 (by omega) (by omega) (by omega) I5.out.s)
          go_wp2_with fail
          refine HN3.out.mono ?_
          rintro e w6 ⟨x, rfl, hx, S6, hb6⟩
          have I6 := Lib.hid (I5.out.next S6.out hb6)
          have HN4 := Lib.hid (HNx.out 3 (K' + 3) w6 (by omega) (by omega) (by omega) I6.out.s)
          clear HN3 S6 hb6 I5
          go_wp2_with fail
          refine HN4.out.mono ?_
          rintro e w7 ⟨y, rfl, hy, S7, hb7⟩
          have I7 := Lib.hid (I6.out.next S7.out hb7)
          clear HN4 S7 hb7 I6
          go_wp2_with (at_builtin; refine wpList_app_ints rfl (.tmp 41) (.tmp 46) rfl I7.out [_, _] rfl 2 2 rfl rfl rfl (by omega) ?_)
          intro A8 c8 w8 I8
          go_wp2
          go_roundw
          case rel => exact ⟨i - 1, _, _, _, by omega, by omega, by go_num, rfl, Lib.hid (I8.out.mono (by have := HKr.out; omega))⟩
          case measure => simp [intOf]; omega
      · have qlt5 : ¬ (op : Int) < 5 := by omega
        have qgt14 : ¬ (14 : Int) < (op : Int) := by omega
        have qe6 : ((op : Int) == 6) = false := by simp; omega
        have qe7 : ((op : Int) == 7) = false := by simp; omega
        have qge15 : ¬ (15 : Int) ≤ (op : Int) := by omega
        have qe5 : ((op : Int) == 5) = false := by simp; omega
        have qe20 : ((op : Int) == 20) = false := by simp; omega
        have qe21 : ((op : Int) == 21) = false := by simp; omega
        clear h7
        go_wp2_with (at_builtin; refine wpList_app_ints rfl (.tmp 27) (.tmp 32) rfl I4.out [_] rfl 1 1 rfl rfl rfl (by omega) ?_)
        intro A5 c5 w5 I5
        go_wp2
        go_roundw
        case rel => exact ⟨i - 1, _, _, _, by omega, by omega, by go_num, rfl, Lib.hid (I5.out.mono (by have := HKr.out; omega))⟩
        case measure => simp [intOf]; omega
      · have qlt5 : ¬ (op : Int) < 5 := by omega
        have qgt14 : (14 : Int) < (op : Int) := by omega
        have qe6 : ((op : Int) == 6) = false := by simp; omega
        have qe7 : ((op : Int) == 7) = false := by simp; omega
        have qge15 : (15 : Int) ≤ (op : Int) := by omega
        have qe5 : ((op : Int) == 5) = false := by simp; omega
        have qe20 : ((op : Int) == 20) = false := by simp; omega
        have qe21 : ((op : Int) == 21) = false := by simp; omega
        have qle18 : (op : Int) ≤ 18 := by omega
        clear h7
        go_wp2_with (at_builtin; refine wpList_app_ints rfl (.tmp 27) (.tmp 32) rfl I4.out [_] rfl 1 1 rfl rfl rfl (by omega) ?_)
        intro A5 c5 w5 I5
        have HN3 := Lib.hid (HNx.out 40 (K' + 2) w5 (by omega) (by omega) (by omega) I5.out.s)
        go_wp2_with fail
        refine HN3.out.mono ?_
        rintro e w6 ⟨x, rfl, hx, S6, hb6⟩
        have I6 := Lib.hid (I5.out.next S6.out hb6)
        clear HN3 S6 hb6 I5
        go_wp2_with (at_builtin; refine wpList_app_ints rfl (.tmp 55) (.tmp 58) rfl I6.out [_, _] rfl 2 2 rfl rfl rfl (by omega) ?_)
        intro A8 c8 w8 I8
        go_wp2
        go_roundw
        case rel => exact ⟨i - 1, _, _, _, by omega, by omega, by go_num, rfl, Lib.hid (I8.out.mono (by have := HKr.out; omega))⟩
        case measure => simp [intOf]; omega
      · have qlt5 : ¬ (op : Int) < 5 := by omega
        have qgt14 : (14 : Int) < (op : Int) := by omega
        have qe6 : ((op : Int) == 6) = false := by simp; omega
        have qe7 : ((op : Int) == 7) = false := by simp; omega
        have qge15 : (15 : Int) ≤ (op : Int) := by omega
        have qe5 : ((op : Int) == 5) = false := by simp; omega
        have qe20 : ((op : Int) == 20) = false := by simp; omega
        have qe21 : ((op : Int) == 21) = false := by simp; omega
        have qle18 : ¬ (op : Int) ≤ 18 := by omega
        clear h7
        go_wp2_with (at_builtin; refine wpList_app_ints rfl (.tmp 27) (.tmp 32) rfl I4.out [_] rfl 1 1 rfl rfl rfl (by omega) ?_)
        intro A5 c5 w5 I5
        go_wp2
        go_roundw
        case rel => exact ⟨i - 1, _, _, _, by omega, by omega, by go_num, rfl, Lib.hid (I5.out.mono (by have := HKr.out; omega))⟩
        case measure => simp [intOf]; omega
      · rcases h7 with rfl | rfl
        · go_wp2_with (at_builtin; refine wpList_app_ints rfl (.tmp 27) (.tmp 32) rfl I4.out [_] rfl 1 1 rfl rfl rfl (by omega) ?_)
          intro A5 c5 w5 I5
          have HN3 := Lib.hid (HNx.out 4 (K' + 2) w5 (by omega) (by omega) (by omega) I5.out.s)
          go_wp2_with fail
          refine HN3.out.mono ?_
          rintro e w6 ⟨x, rfl, hx, S6, hb6⟩
          have I6 := Lib.hid (I5.out.next S6.out hb6)
          have HN4 := Lib.hid (HNx.out 256 (K' + 3) w6 (by omega) (by omega) (by omega) I6.out.s)
          clear HN3 S6 hb6 I5
          go_wp2_with fail
          refine HN4.out.mono ?_
          rintro e w7 ⟨y, rfl, hy, S7, hb7⟩
          have I7 := Lib.hid (I6.out.next S7.out hb7)
          have hba7 := alloc_below w7 (.cells #[.int .i64 (x : Int), .int .i64 (y : Int)] 3)
          have I7a := Lib.hid (I7.out.step hba7)
          have HN5 := Lib.hid (HNx.out 2 (K' + 4) _ (by omega) (by omega) (by omega) I7a.out.s)
          have X7 := Lib.hid (Box.new w7 3 #[.int .i64 (x : Int), .int .i64 (y : Int)])
          have HB7 : Hid (b < w7.heap.size) := Lib.hid I7.out.s.lt
          clear HN4 S7 hb7 I6 I7 hba7
          go_wp2_with fail
          refine HN5.out.mono ?_
          rintro e w8 ⟨z, rfl, hz, S8, hb8⟩
          have I8 := Lib.hid (I7a.out.next S8.out hb8)
          have X8 := X7.out.btw hb8 (.inr (by have := HB7.out; omega))
          have x0 := X8.cell 0 rfl
          have x1 := X8.cell 1 rfl
          clear HN5 S8 hb8 I7a X7 X8
          have hz2 : z = 0 ∨ z = 1 := by omega
          rcases hz2 with rfl | rfl
          · go_wp2_with (at_builtin; refine wpList_app_ints rfl (.tmp 71) (.tmp 81) rfl I8.out [_] rfl 1 1 rfl rfl rfl (by omega) ?_)
            intro A9 c9 w9 I9
            go_wp2
            go_roundw
            case rel => exact ⟨i - 1, _, _, _, by omega, by omega, by go_num, rfl, Lib.hid (I9.out.mono (by have := HKr.out; omega))⟩
            case measure => simp [intOf]; omega
          · go_wp2_with (at_builtin; refine wpList_app_ints rfl (.tmp 71) (.tmp 81) rfl I8.out [_] rfl 1 1 rfl rfl rfl (by omega) ?_)
            intro A9 c9 w9 I9
            go_wp2
            go_roundw
            case rel => exact ⟨i - 1, _, _, _, by omega, by omega, by go_num, rfl, Lib.hid (I9.out.mono (by have := HKr.out; omega))⟩
            case measure => simp [intOf]; omega
        · go_wp2_with (at_builtin; refine wpList_app_ints rfl (.tmp 27) (.tmp 32) rfl I4.out [_] rfl 1 1 rfl rfl rfl (by omega) ?_)
          intro A5 c5 w5 I5
          have HN3 := Lib.hid (HNx.out 4 (K' + 2) w5 (by omega) (by omega) (by omega) I5.out.s)
          go_wp2_with fail
          refine HN3.out.mono ?_
          rintro e w6 ⟨x, rfl, hx, S6, hb6⟩
          have I6 := Lib.hid (I5.out.next S6.out hb6)
          have HN4 := Lib.hid (HNx.out 256 (K' + 3) w6 (by omega) (by omega) (by omega) I6.out.s)
          clear HN3 S6 hb6 I5
          go_wp2_with fail
          refine HN4.out.mono ?_
          rintro e w7 ⟨y, rfl, hy, S7, hb7⟩
          have I7 := Lib.hid (I6.out.next S7.out hb7)
          have hba7 := alloc_below w7 (.cells #[.int .i64 (x : Int), .int .i64 (y : Int)] 3)
          have I7a := Lib.hid (I7.out.step hba7)
          have HN5 := Lib.hid (HNx.out 2 (K' + 4) _ (by omega) (by omega) (by omega) I7a.out.s)
          have X7 := Lib.hid (Box.new w7 3 #[.int .i64 (x : Int), .int .i64 (y : Int)])
          have HB7 : Hid (b < w7.heap.size) := Lib.hid I7.out.s.lt
          clear HN4 S7 hb7 I6 I7 hba7
          go_wp2_with fail
          refine HN5.out.mono ?_
          rintro e w8 ⟨z, rfl, hz, S8, hb8⟩
          have I8 := Lib.hid (I7a.out.next S8.out hb8)
          have X8 := X7.out.btw hb8 (.inr (by have := HB7.out; omega))
          have x0 := X8.cell 0 rfl
          have x1 := X8.cell 1 rfl
          clear HN5 S8 hb8 I7a X7 X8
          have hz2 : z = 0 ∨ z = 1 := by omega
          rcases hz2 with rfl | rfl
          · go_wp2_with (at_builtin; refine wpList_app_ints rfl (.tmp 71) (.tmp 81) rfl I8.out [_] rfl 1 1 rfl rfl rfl (by omega) ?_)
            intro A9 c9 w9 I9
            go_wp2
            go_roundw
            case rel => exact ⟨i - 1, _, _, _, by omega, by omega, by go_num, rfl, Lib.hid (I9.out.mono (by have := HKr.out; omega))⟩
            case measure => simp [intOf]; omega
          · go_wp2_with (at_builtin; refine wpList_app_ints rfl (.tmp 71) (.tmp 81) rfl I8.out [_] rfl 1 1 rfl rfl rfl (by omega) ?_)
            intro A9 c9 w9 I9
            go_wp2
            go_roundw
            case rel => exact ⟨i - 1, _, _, _, by omega, by omega, by go_num, rfl, Lib.hid (I9.out.mono (by have := HKr.out; omega))⟩
            case measure => simp [intOf]; omega
    · have hi' : ¬ (0 : Int) < (i : Int) := by omega
      have HC1 := Lib.hid (HCh.out _ wr (by omega) I.out.s)
      go_wp2_with fail
      refine HC1.out.mono ?_
      rintro e w3 ⟨f, rfl, S3, hb3⟩
      have I3 := Lib.hid (I.out.next S3.out hb3)
      clear HC1 S3 hb3 I HNx HCh
      cases f
      · obtain ⟨ps, hl, hr⟩ := I3.out.i
        have HO : Hid (OwnI w3 w.heap.size w3.heap.size A' ps) := Lib.hid (GroI.own (base := w.heap.size) (n := k) (c := c') (by unfold GroI; rw [hl]; exact hr) (Nat.le_refl _))
        have HF : Hid (Src w3 b A n c zs (K + 200) ∧ Btw b (b + 1) w w3) := Lib.hid ⟨I3.out.s.mono (by omega), I3.out.btw⟩
        subst hl
        clear hr I3
        go_wp2
        go_ret
        exact ⟨ps, A', c', Lib.hid (by omega), rfl, HO, HF⟩
      · go_wp2_with (at_builtin; refine wpList_app_ints rfl (.tmp 85) (.tmp 86) rfl I3.out [_] rfl 1 1 rfl rfl rfl (by omega) ?_)
        intro A5 c5 w5 I5
        obtain ⟨ps, hl, hr⟩ := I5.out.i
        have HO : Hid (OwnI w5 w.heap.size w5.heap.size A5 ps) := Lib.hid (GroI.own (base := w.heap.size) (n := k + 1) (c := c5) (by unfold GroI; rw [hl]; exact hr) (Nat.le_refl _))
        have HF : Hid (Src w5 b A n c zs (K + 200) ∧ Btw b (b + 1) w w5) := Lib.hid ⟨I5.out.s.mono (by omega), I5.out.btw⟩
        have HLn : Hid (k + 1 = ps.length) := Lib.hid hl.symm
        clear hr I5 I3 hl
        go_wp2
        go_ret
        exact ⟨ps, A5, c5, Lib.hid (by have := HLn.out; omega), congrArg (fun m => Ending.returned (Value.slice A5 m c5)) HLn.out, HO, HF⟩
end Go.Proofs.Ytdanefhfngmipaa

/- The memory bus in plain words: which memories are valid, the regions, what a read gives and a write leaves. -/
namespace Go.Proofs.Ytdanefhfngmipaa
open Go.RowKit

def okMem (r i : List Int) (zs : List Int) (gs : List Bool) (st : Int) : Bool := (decide (r.length = 256) && decide (i.length = 32)) && ((r.all byB && i.all byB) && okFlash zs gs st)
def adB (a : Int) : Bool := decide (0 ≤ a ∧ a ≤ 4095)
def regR (a : Int) : Int := if a < 256 then 1 else if a < 288 then 2 else if 512 ≤ a ∧ a ≤ 767 then 3 else 0
def regK (a : Int) : Int := if a < 256 then a else if a < 288 then a - 256 else if 512 ≤ a ∧ a ≤ 767 then a - 512 else 0
theorem adB_range {a : Int} (h : adB a = true) : 0 ≤ a ∧ a ≤ 4095 := by unfold adB at h; simpa using h
theorem adB_of {a : Int} (h : 0 ≤ a ∧ a ≤ 4095) : adB a = true := by unfold adB; simpa using h
theorem all_bytes {zs : List Int} (h : zs.all byB = true) : ∀ z ∈ zs, 0 ≤ z ∧ z ≤ 255 := fun z hz => byB_range (List.all_eq_true.1 h z hz)
theorem okMem_len {r i zs : List Int} {gs : List Bool} {st : Int} (h : okMem r i zs gs st = true) : r.length = 256 ∧ i.length = 32 ∧ r.all byB = true ∧ i.all byB = true ∧ okFlash zs gs st = true := by
  unfold okMem at h
  simp only [Bool.and_eq_true, decide_eq_true_eq] at h
  exact ⟨h.1.1, h.1.2, h.2.1.1, h.2.1.2, h.2.2⟩
theorem okMem_mk {r i zs : List Int} {gs : List Bool} {st : Int} (h1 : r.length = 256) (h2 : i.length = 32) (h3 : r.all byB = true) (h4 : i.all byB = true) (h5 : okFlash zs gs st = true) : okMem r i zs gs st = true := by
  unfold okMem; simp [h1, h2, h3, h4, h5]
theorem okMem_no1 (r i zs : List Int) (gs : List Bool) (st : Int) (h : r.length ≠ 256) : okMem r i zs gs st = false := by unfold okMem; simp [h]
theorem okMem_no2 (r i zs : List Int) (gs : List Bool) (st : Int) (h : i.length ≠ 32) : okMem r i zs gs st = false := by unfold okMem; simp [h]
theorem okMem_no3 (r i zs : List Int) (gs : List Bool) (st : Int) (h : r.all byB = false) : okMem r i zs gs st = false := by unfold okMem; simp [h]
theorem okMem_no4 (r i zs : List Int) (gs : List Bool) (st : Int) (h : i.all byB = false) : okMem r i zs gs st = false := by unfold okMem; simp [h]
theorem okMem_yes (r i zs : List Int) (gs : List Bool) (st : Int) (h1 : r.length = 256) (h2 : i.length = 32) (h3 : r.all byB = true) (h4 : i.all byB = true) : okMem r i zs gs st = okFlash zs gs st := by unfold okMem; simp [h1, h2, h3, h4]

/-- What is read at an address. -/
def getV (r i zs : List Int) (gs : List Bool) (rd : List Int → List Bool → Int → Nat → Int) (st a : Int) : Int :=
  if regR a = 1 then r.getD (regK a).toNat 0 else if regR a = 2 then i.getD (regK a).toNat 0 else if regR a = 3 then rd zs gs st (regK a).toNat else 255
/-- The memory behind a write. -/
def putR (r : List Int) (a v : Int) : List Int := if regR a = 1 then r.set (regK a).toNat v else r
def putI (i : List Int) (a v : Int) : List Int := if regR a = 2 ∧ 0 < regK a then i.set (regK a).toNat v else i
def putZ (zs : List Int) (gs : List Bool) (st a v : Int) : List Int := if regR a = 3 then cycZ zs gs st (regK a).toNat v.toNat else zs
def putG (gs : List Bool) (st a : Int) : List Bool := if regR a = 3 then cycG gs st (regK a).toNat else gs
def putS (st a v : Int) : Int := if regR a = 3 then nextS st (regK a) v else st
theorem putR_len (r : List Int) (a v : Int) : (putR r a v).length = r.length := by unfold putR; split <;> simp
theorem putI_len (i : List Int) (a v : Int) : (putI i a v).length = i.length := by unfold putI; split <;> simp
theorem putZ_len (zs : List Int) (gs : List Bool) (st a v : Int) : (putZ zs gs st a v).length = zs.length := by unfold putZ; split <;> simp [cycZ_len]
theorem putG_len (gs : List Bool) (st a : Int) : (putG gs st a).length = gs.length := by unfold putG; split <;> simp [cycG_len]

/-- The four ways of an address. -/
theorem reg_ways (k : Nat) (hk : k < 4096) : (k < 256 ∧ regR k = 1 ∧ regK k = k) ∨ (256 ≤ k ∧ k < 288 ∧ regR k = 2 ∧ regK k = ((k - 256 : Nat) : Int)) ∨ (512 ≤ k ∧ k < 768 ∧ regR k = 3 ∧ regK k = ((k - 512 : Nat) : Int)) ∨ (288 ≤ k ∧ (k < 512 ∨ 768 ≤ k) ∧ regR k = 0 ∧ regK k = 0) := by
  unfold regR regK
  by_cases h1 : k < 256
  · left; rw [if_pos (by omega), if_pos (by omega)]; exact ⟨h1, rfl, rfl⟩
  · right
    by_cases h2 : k < 288
    · left; rw [if_neg (by omega), if_pos (by omega), if_neg (by omega), if_pos (by omega)]; exact ⟨by omega, h2, rfl, by omega⟩
    · right
      by_cases h3 : 512 ≤ k ∧ k < 768
      · left; rw [if_neg (by omega), if_neg (by omega), if_pos (by omega), if_neg (by omega), if_neg (by omega), if_pos (by omega)]; exact ⟨h3.1, h3.2, rfl, by omega⟩
      · right; rw [if_neg (by omega), if_neg (by omega), if_neg (by omega), if_neg (by omega), if_neg (by omega), if_neg (by omega)]; exact ⟨by omega, by omega, rfl, rfl⟩
end Go.Proofs.Ytdanefhfngmipaa

/- Leaves of Go values as data: what a value says, rows of the call's own, what a call that writes into some of them keeps. Nothing here is of one type of the program. -/
namespace Go.Proofs.Ytdanefhfngmipaa
open Go.RowKit

/-- What a leaf of a struct that is a slice says. -/
inductive Lf where
  | I (zs : List Int)
  | B (gs : List Bool)
  | S (ss : List ByteArray)

def Lf.len : Lf → Nat
  | .I zs => zs.length
  | .B gs => gs.length
  | .S ss => ss.length
/-- The size that the laws count. -/
def Lf.sz : Lf → Nat
  | .I zs => zs.length
  | .B gs => gs.length
  | .S ss => ss.length + lenS ss
def Lf.marks (k : Nat) : Lf → Lf
  | .I zs => .I (marksI k zs.length)
  | .B gs => .B (marksB k gs.length)
  | .S ss => .S (marksS k ss.length)
theorem Lf.marks_len (k : Nat) (d : Lf) : (d.marks k).len = d.len := by cases d <;> simp [Lf.marks, Lf.len, marksI, marksB, marksS]
theorem Lf.len_le (d : Lf) : d.len ≤ d.sz := by cases d <;> simp [Lf.len, Lf.sz]
/-- Its strings are no longer than strings can be, its length no greater than lengths. -/
def Lf.fit : Lf → Prop
  | .I zs => zs.length ≤ maxLen
  | .B gs => gs.length ≤ maxLen
  | .S ss => ss.length ≤ maxLen ∧ FitS ss

def RepL (w : World) (v : Value) : Lf → Prop
  | .I zs => ∃ A c, v = .slice A zs.length c ∧ IntL w A zs
  | .B gs => ∃ A c, v = .slice A gs.length c ∧ BoolL w A gs
  | .S ss => ∃ A c, v = .slice A ss.length c ∧ StrL w A ss
def OwnL (w : World) (lo hi : Nat) (v : Value) : Lf → Prop
  | .I zs => ∃ A c, v = .slice A zs.length c ∧ OwnI w lo hi A zs
  | .B gs => ∃ A c, v = .slice A gs.length c ∧ OwnB w lo hi A gs
  | .S ss => ∃ A c, v = .slice A ss.length c ∧ OwnS w lo hi A ss
/-- A slice's capacity is no less than its length. -/
def CapL (v : Value) : Prop := ∀ A n c, v = .slice A n c → n ≤ c
/-- The block of a slice that holds something. -/
def blkL : Value → Option Nat
  | .slice (some a) n _ => if n = 0 then none else some a.block
  | _ => none
theorem blkL_some {b off : Nat} {n c : Nat} (h : 0 < n) : blkL (.slice (some ⟨b, off, none⟩) n c) = some b := by simp [blkL]; omega
theorem blkL_zero (A : Option Addr) (c : Nat) : blkL (.slice A 0 c) = none := by cases A <;> simp [blkL]

def AllA (P : Value → Lf → Prop) : List Value → List Lf → Prop
  | [], [] => True
  | v :: vs, d :: ds => P v d ∧ AllA P vs ds
  | _, _ => False
def RepA (w : World) (vs : List Value) (ds : List Lf) : Prop := AllA (RepL w) vs ds
def OwnA (w : World) (lo hi : Nat) (vs : List Value) (ds : List Lf) : Prop := AllA (OwnL w lo hi) vs ds ∧ (vs.filterMap blkL).Nodup

theorem AllA.imp {P Q : Value → Lf → Prop} : ∀ {vs : List Value} {ds : List Lf}, (∀ v d, v ∈ vs → P v d → Q v d) → AllA P vs ds → AllA Q vs ds
  | [], [], _, _ => trivial
  | v :: vs, d :: ds, h, ⟨h1, h2⟩ => ⟨h v d (by simp) h1, AllA.imp (fun v' d' hm => h v' d' (by simp [hm])) h2⟩
  | [], _ :: _, _, h => h.elim
  | _ :: _, [], _, h => h.elim

theorem RepL.below {w w' : World} {v : Value} : ∀ {d : Lf}, RepL w v d → Below w.heap.size w w' → RepL w' v d
  | .I _, ⟨A, c, e, h⟩, hb => ⟨A, c, e, h.below hb⟩
  | .B _, ⟨A, c, e, h⟩, hb => ⟨A, c, e, h.below hb⟩
  | .S _, ⟨A, c, e, h⟩, hb => ⟨A, c, e, h.below hb⟩
theorem RepA.below {w w' : World} {vs : List Value} {ds : List Lf} (h : RepA w vs ds) (hb : Below w.heap.size w w') : RepA w' vs ds := AllA.imp (fun _ _ _ h => h.below hb) h
theorem OwnL.below {w w' : World} {lo hi : Nat} {v : Value} : ∀ {d : Lf}, OwnL w lo hi v d → Below w.heap.size w w' → OwnL w' lo hi v d
  | .I _, ⟨A, c, e, h⟩, hb => ⟨A, c, e, h.below hb⟩
  | .B _, ⟨A, c, e, h⟩, hb => ⟨A, c, e, h.below hb⟩
  | .S _, ⟨A, c, e, h⟩, hb => ⟨A, c, e, h.below hb⟩
theorem OwnL.btw {w w' : World} {lo hi l r : Nat} {v : Value} : ∀ {d : Lf}, OwnL w lo hi v d → Btw l r w w' → (hi ≤ l ∨ r ≤ lo) → OwnL w' lo hi v d
  | .I _, ⟨A, c, e, h⟩, hb, ho => ⟨A, c, e, h.btw hb ho⟩
  | .B _, ⟨A, c, e, h⟩, hb, ho => ⟨A, c, e, h.btw hb ho⟩
  | .S _, ⟨A, c, e, h⟩, hb, ho => ⟨A, c, e, h.btw hb ho⟩
theorem OwnL.wide {w : World} {lo hi lo' hi' : Nat} {v : Value} : ∀ {d : Lf}, OwnL w lo hi v d → lo' ≤ lo → hi ≤ hi' → OwnL w lo' hi' v d
  | .I _, ⟨A, c, e, h⟩, h1, h2 => ⟨A, c, e, h.wideB h1 h2⟩
  | .B _, ⟨A, c, e, h⟩, h1, h2 => ⟨A, c, e, h.wide h1 h2⟩
  | .S _, ⟨A, c, e, h⟩, h1, h2 => ⟨A, c, e, h.wide h1 h2⟩
theorem OwnL.reads {w : World} {lo hi : Nat} {v : Value} : ∀ {d : Lf}, OwnL w lo hi v d → RepL w v d
  | .I _, ⟨A, c, e, h⟩ => ⟨A, c, e, h.reads⟩
  | .B _, ⟨A, c, e, h⟩ => ⟨A, c, e, h.reads⟩
  | .S _, ⟨A, c, e, h⟩ => ⟨A, c, e, h.reads⟩
theorem OwnL.form {w : World} {lo hi : Nat} {v : Value} : ∀ {d : Lf}, OwnL w lo hi v d → ∃ A c, v = .slice A d.len c
  | .I _, ⟨A, c, e, _⟩ => ⟨A, c, e⟩
  | .B _, ⟨A, c, e, _⟩ => ⟨A, c, e⟩
  | .S _, ⟨A, c, e, _⟩ => ⟨A, c, e⟩
theorem RepL.form {w : World} {v : Value} : ∀ {d : Lf}, RepL w v d → ∃ A c, v = .slice A d.len c
  | .I _, ⟨A, c, e, _⟩ => ⟨A, c, e⟩
  | .B _, ⟨A, c, e, _⟩ => ⟨A, c, e⟩
  | .S _, ⟨A, c, e, _⟩ => ⟨A, c, e⟩
theorem OwnA.below {w w' : World} {lo hi : Nat} {vs : List Value} {ds : List Lf} (h : OwnA w lo hi vs ds) (hb : Below w.heap.size w w') : OwnA w' lo hi vs ds := ⟨AllA.imp (fun _ _ _ h => h.below hb) h.1, h.2⟩
theorem OwnA.btw {w w' : World} {lo hi l r : Nat} {vs : List Value} {ds : List Lf} (h : OwnA w lo hi vs ds) (hb : Btw l r w w') (ho : hi ≤ l ∨ r ≤ lo) : OwnA w' lo hi vs ds := ⟨AllA.imp (fun _ _ _ h => h.btw hb ho) h.1, h.2⟩
theorem OwnA.wide {w : World} {lo hi lo' hi' : Nat} {vs : List Value} {ds : List Lf} (h : OwnA w lo hi vs ds) (h1 : lo' ≤ lo) (h2 : hi ≤ hi') : OwnA w lo' hi' vs ds := ⟨AllA.imp (fun _ _ _ h => h.wide h1 h2) h.1, h.2⟩
theorem OwnA.reads {w : World} {lo hi : Nat} {vs : List Value} {ds : List Lf} (h : OwnA w lo hi vs ds) : RepA w vs ds := AllA.imp (fun _ _ _ h => h.reads) h.1

/-- A leaf's own block alone has turned. -/
structure Touch (vs : List Value) (w w' : World) : Prop where
  os : w'.os = w.os
  tape : w'.tape = w.tape
  output : w'.output = w.output
  size : w.heap.size ≤ w'.heap.size
  block : ∀ k, k < w.heap.size → k ∉ vs.filterMap blkL → w'.heap[k]? = w.heap[k]?
theorem Touch.refl (vs : List Value) (w : World) : Touch vs w w := ⟨rfl, rfl, rfl, Nat.le_refl _, fun _ _ _ => rfl⟩
theorem Touch.trans {vs us : List Value} {a b c : World} (h : Touch vs a b) (k : Touch us b c) : Touch (vs ++ us) a c :=
  ⟨k.os.trans h.os, k.tape.trans h.tape, k.output.trans h.output, Nat.le_trans h.size k.size, fun i hi hn => by
    rw [List.filterMap_append, List.mem_append] at hn
    exact (k.block i (Nat.lt_of_lt_of_le hi h.size) (fun h => hn (.inr h))).trans (h.block i hi (fun h => hn (.inl h)))⟩
theorem Touch.of_below {w w' : World} (h : Below w.heap.size w w') (vs : List Value) : Touch vs w w' := ⟨h.os, h.tape, h.output, h.size, fun k hk _ => h.block k hk⟩
theorem Touch.more {vs us : List Value} {w w' : World} (h : Touch vs w w') (hs : ∀ k, k ∈ vs.filterMap blkL → k ∈ us.filterMap blkL) : Touch us w w' := ⟨h.os, h.tape, h.output, h.size, fun k hk hn => h.block k hk (fun h => hn (hs k h))⟩
theorem OwnL.blk {w : World} {lo hi : Nat} {v : Value} {b : Nat} (hb : blkL v = some b) : ∀ {d : Lf}, OwnL w lo hi v d → lo ≤ b ∧ b < hi
  | .I zs, ⟨A, c, e, h⟩ => by
    subst e
    rcases h with rfl | ⟨g, m, f, rfl, h1, h2, _⟩
    · rw [List.length_nil, blkL_zero] at hb; cases hb
    · rcases Nat.eq_zero_or_pos zs.length with hz | hz
      · rw [hz, blkL_zero] at hb; cases hb
      · rw [blkL_some hz] at hb; injection hb with hb; subst hb; exact ⟨h1, h2⟩
  | .B zs, ⟨A, c, e, h⟩ => by
    subst e
    rcases h with rfl | ⟨g, m, f, rfl, h1, h2, _⟩
    · rw [List.length_nil, blkL_zero] at hb; cases hb
    · rcases Nat.eq_zero_or_pos zs.length with hz | hz
      · rw [hz, blkL_zero] at hb; cases hb
      · rw [blkL_some hz] at hb; injection hb with hb; subst hb; exact ⟨h1, h2⟩
  | .S zs, ⟨A, c, e, h⟩ => by
    subst e
    rcases h with rfl | ⟨g, m, f, rfl, h1, h2, _⟩
    · rw [List.length_nil, blkL_zero] at hb; cases hb
    · rcases Nat.eq_zero_or_pos zs.length with hz | hz
      · rw [hz, blkL_zero] at hb; cases hb
      · rw [blkL_some hz] at hb; injection hb with hb; subst hb; exact ⟨h1, h2⟩
theorem AllA.mem {P : Value → Lf → Prop} : ∀ {vs : List Value} {ds : List Lf} {v : Value}, AllA P vs ds → v ∈ vs → ∃ d, P v d
  | v :: vs, d :: ds, u, ⟨h1, h2⟩, hm => by
    rcases List.mem_cons.1 hm with rfl | hm
    · exact ⟨d, h1⟩
    · exact AllA.mem h2 hm
  | [], [], _, _, hm => by cases hm
theorem OwnA.blk {w : World} {lo hi : Nat} {vs : List Value} {ds : List Lf} (h : OwnA w lo hi vs ds) {b : Nat} (hb : b ∈ vs.filterMap blkL) : lo ≤ b ∧ b < hi := by
  obtain ⟨v, hv, he⟩ := List.mem_filterMap.1 hb
  obtain ⟨d, hd⟩ := h.1.mem hv
  exact hd.blk he
theorem Touch.btw {w w' : World} {lo hi : Nat} {vs : List Value} {ds : List Lf} (h : OwnA w lo hi vs ds) (t : Touch vs w w') : Btw lo hi w w' :=
  ⟨t.os, t.tape, t.output, t.size, fun k hk ho => t.block k hk (fun hm => by have := h.blk hm; omega)⟩
/-- An owned leaf whose block is not among those that turned is as it was. -/
theorem OwnL.away {w w' : World} {lo hi : Nat} {v : Value} {us : List Value} (t : Touch us w w') (hn : ∀ b, blkL v = some b → b ∉ us.filterMap blkL) : ∀ {d : Lf}, OwnL w lo hi v d → OwnL w' lo hi v d
  | .I zs, ⟨A, c, e, h⟩ => by
    refine ⟨A, c, e, ?_⟩
    rcases h with h | ⟨g, m, f, rfl, h1, h2, hm, hr, hf⟩
    · exact .inl h
    · by_cases hz : zs = []
      · exact .inl hz
      · exact .inr ⟨g, m, f, rfl, h1, h2, hm, hr.of_block (t.block g hr.lt (hn g (by rw [e]; exact blkL_some (List.length_pos_iff.2 hz)))), hf⟩
  | .B zs, ⟨A, c, e, h⟩ => by
    refine ⟨A, c, e, ?_⟩
    rcases h with h | ⟨g, m, f, rfl, h1, h2, hm, hr, hf⟩
    · exact .inl h
    · by_cases hz : zs = []
      · exact .inl hz
      · exact .inr ⟨g, m, f, rfl, h1, h2, hm, hr.of_block (t.block g hr.lt (hn g (by rw [e]; exact blkL_some (List.length_pos_iff.2 hz)))), hf⟩
  | .S zs, ⟨A, c, e, h⟩ => by
    refine ⟨A, c, e, ?_⟩
    rcases h with h | ⟨g, m, f, rfl, h1, h2, hm, hr, hf⟩
    · exact .inl h
    · by_cases hz : zs = []
      · exact .inl hz
      · exact .inr ⟨g, m, f, rfl, h1, h2, hm, hr.of_block (t.block g hr.lt (hn g (by rw [e]; exact blkL_some (List.length_pos_iff.2 hz)))), hf⟩
theorem OwnA.away {w w' : World} {lo hi : Nat} {vs us : List Value} {ds : List Lf} (t : Touch us w w') (hn : ∀ b, b ∈ vs.filterMap blkL → b ∉ us.filterMap blkL) (h : OwnA w lo hi vs ds) : OwnA w' lo hi vs ds :=
  ⟨AllA.imp (fun v _ hv h => h.away t (fun b hb => hn b (List.mem_filterMap.2 ⟨v, hv, hb⟩))) h.1, h.2⟩
theorem OwnA.cons {w : World} {lo hi : Nat} {v : Value} {vs : List Value} {d : Lf} {ds : List Lf} (h1 : OwnL w lo hi v d) (h2 : OwnA w lo hi vs ds) (hn : ∀ b, blkL v = some b → b ∉ vs.filterMap blkL) : OwnA w lo hi (v :: vs) (d :: ds) := by
  refine ⟨⟨h1, h2.1⟩, ?_⟩
  rw [List.filterMap_cons]
  cases hb : blkL v with
  | none => exact h2.2
  | some b => exact List.nodup_cons.2 ⟨hn b hb, h2.2⟩
theorem OwnA.uncons {w : World} {lo hi : Nat} {v : Value} {vs : List Value} {d : Lf} {ds : List Lf} (h : OwnA w lo hi (v :: vs) (d :: ds)) : OwnL w lo hi v d ∧ OwnA w lo hi vs ds ∧ ∀ b, blkL v = some b → b ∉ vs.filterMap blkL := by
  obtain ⟨⟨h1, h2⟩, h3⟩ := h
  rw [List.filterMap_cons] at h3
  cases hb : blkL v with
  | none => rw [hb] at h3; exact ⟨h1, ⟨h2, h3⟩, fun b hb' => by cases hb'⟩
  | some b => rw [hb] at h3; exact ⟨h1, ⟨h2, (List.nodup_cons.1 h3).2⟩, fun b' hb' => by injection hb' with e; subst e; exact (List.nodup_cons.1 h3).1⟩
theorem OwnA.nil (w : World) (lo hi : Nat) : OwnA w lo hi [] [] := ⟨trivial, List.nodup_nil⟩
/-- Rows of two ranges are of two blocks. -/
theorem OwnA.append {w : World} {lo hi lo' hi' L R : Nat} {vs us : List Value} {ds es : List Lf} (h : OwnA w lo hi vs ds) (k : OwnA w lo' hi' us es) (ho : hi ≤ lo' ∨ hi' ≤ lo) (h1 : L ≤ lo) (h2 : L ≤ lo') (h3 : hi ≤ R) (h4 : hi' ≤ R) : OwnA w L R (vs ++ us) (ds ++ es) := by
  have aux : ∀ {vs : List Value} {ds : List Lf}, AllA (OwnL w L R) vs ds → AllA (OwnL w L R) us es → AllA (OwnL w L R) (vs ++ us) (ds ++ es) := by
    intro vs
    induction vs with
    | nil => intro ds a b; cases ds with
      | nil => exact b
      | cons d ds => exact a.elim
    | cons v vs ih => intro ds a b; cases ds with
      | nil => exact a.elim
      | cons d ds => exact ⟨a.1, ih a.2 b⟩
  refine ⟨aux (h.wide h1 h3).1 (k.wide h2 h4).1, ?_⟩
  rw [List.filterMap_append, List.nodup_append]
  refine ⟨h.2, k.2, fun a ha b hb e => ?_⟩
  subst e
  have := h.blk ha
  have := k.blk hb
  omega
end Go.Proofs.Ytdanefhfngmipaa

/- The laws' own functions over []int, []bool, []string, on leaves. -/
namespace Go.Proofs.Ytdanefhfngmipaa
open Go.RowKit

/-- The call hands back a slice of its own. -/
def GivesL (n : Nat) (d : Lf) (w : World) (e : Ending) (w' : World) : Prop := ∃ A c, e = .returned (.slice A n c) ∧ Hid (OwnL w' w.heap.size w'.heap.size (.slice A n c) d) ∧ Hid (CapL (.slice A n c)) ∧ Below w.heap.size w w'
/-- The call has marked a slice. -/
def MarkedL (lo hi : Nat) (v : Value) (d : Lf) (k : Nat) (w : World) (e : Ending) (w' : World) : Prop := e = .returned (.int .i64 ((k + d.len : Nat) : Int)) ∧ Hid (OwnL w' lo hi v (d.marks k)) ∧ Touch [v] w w'
theorem capL {A : Option Addr} {n c : Nat} (h : n ≤ c) : CapL (.slice A n c) := fun A' n' c' e => by injection e with _ e2 e3; omega
theorem touch_none {w w' : World} {A : Option Addr} {c : Nat} (h : Btw 0 0 w w') : Touch [.slice A 0 c] w w' := ⟨h.os, h.tape, h.output, h.size, fun k hk _ => h.block k hk (.inr (Nat.zero_le _))⟩
theorem touch_blk {w w' : World} {g n c : Nat} (hn : 0 < n) (h : Btw g (g + 1) w w') : Touch [.slice (some ⟨g, 0, none⟩) n c] w w' := ⟨h.os, h.tape, h.output, h.size, fun k hk hm => h.block k hk (by
  have : k ≠ g := by rintro rfl; exact hm (by simp [blkL_some hn])
  omega)⟩

set_option maxRecDepth 100000 in
theorem szLI (v : Value) (zs : List Int) (left : Int) (w : World) (h : RepL w v (.I zs)) (hf : (Lf.I zs).fit) (h0 : 0 ≤ left) (h1 : left ≤ 1048576) :
    Calls Try.prog 57 #[v, .int .i64 left] w (Left left (Lf.sz (.I zs)) w) := by
  obtain ⟨A, c, rfl, hr⟩ := h
  exact szIntS A zs.length c left w hf h0 h1
set_option maxRecDepth 100000 in
theorem toLI (v : Value) (zs : List Int) (w : World) (h : RepL w v (.I zs)) (hn : zs.length ≤ 1048576) :
    Calls Try.prog 32 #[v] w (GivesL zs.length (.I zs) w) := by
  obtain ⟨A, c, rfl, hr⟩ := h
  refine (toIntSc A zs.length c zs w rfl hn hr).mono ?_
  rintro e w' ⟨A1, n1, c1, rfl, L1, S1, K1, hb1⟩
  have := L1.out
  subst this
  exact ⟨_, _, rfl, Lib.hid ⟨A1, c1, rfl, S1.out⟩, Lib.hid (capL K1), hb1⟩
set_option maxRecDepth 100000 in
theorem eqLI (v v' : Value) (zs : List Int) (w : World) (h : RepL w v (.I zs)) (h' : RepL w v' (.I zs)) (hn : zs.length ≤ maxLen) :
    Calls Try.prog 34 #[v, v'] w fun e w' => e = .returned (.bool true) ∧ Below w.heap.size w w' := by
  obtain ⟨A, c, rfl, hr⟩ := h
  obtain ⟨A', c', rfl, hr'⟩ := h'
  exact eqIntSame A A' zs.length zs.length c c' zs w rfl rfl hn hr hr'
set_option maxRecDepth 100000 in
theorem markLI (v : Value) (zs : List Int) (k lo hi : Nat) (w : World) (h : OwnL w lo hi v (.I zs)) (hk : 1 ≤ k) (hn : zs.length ≤ 4294967296) (hk2 : k ≤ 549755813888) :
    Calls Try.prog 35 #[v, .int .i64 (k : Int)] w (MarkedL lo hi v (.I zs) k w) := by
  obtain ⟨A, c, rfl, ho⟩ := h
  rcases Nat.eq_zero_or_pos zs.length with hz | hz
  · have hz' : zs = [] := List.eq_nil_of_length_eq_zero hz
    subst hz'
    refine (markIntSs A 0 c k 0 0 [] w rfl hk (by omega) (by omega) (.inl rfl)).mono ?_
    rintro e w' ⟨rfl, S, hb⟩
    exact ⟨rfl, Lib.hid ⟨A, c, rfl, .inl rfl⟩, touch_none hb⟩
  · rcases ho with rfl | ⟨b, m, f, rfl, h1, h2, hm, hr, hf⟩
    · simp at hz
    · refine (markIntSs _ zs.length c k b (b + 1) zs w rfl hk (by omega) (by omega) (.inr ⟨b, m, f, rfl, Nat.le_refl _, Nat.lt_succ_self _, hm, hr, hf⟩)).mono ?_
      rintro e w' ⟨rfl, S, hb⟩
      exact ⟨rfl, Lib.hid ⟨_, c, by simp [marksI], S.out.wideB h1 h2⟩, touch_blk hz hb⟩
set_option maxRecDepth 100000 in
theorem heldLI (v : Value) (zs : List Int) (k : Nat) (w : World) (h : RepL w v ((Lf.I zs).marks k)) (hk : 1 ≤ k) (hn : zs.length ≤ 4294967296) (hk2 : k ≤ 549755813888) :
    Calls Try.prog 73 #[v, .int .i64 (k : Int)] w fun e w' => e = .returned (.int .i64 ((k + (Lf.I zs).len : Nat) : Int)) ∧ Below w.heap.size w w' := by
  obtain ⟨A, c, rfl, hr⟩ := h
  have hl : (marksI k zs.length).length = zs.length := by simp [marksI]
  rw [hl]
  refine (heldIntS A zs.length c k w hk (by omega) hr).mono ?_
  rintro e w' ⟨rfl, hb⟩
  exact ⟨rfl, hb ▸ Below.refl _ _⟩
set_option maxRecDepth 100000 in
theorem szLB (v : Value) (zs : List Bool) (left : Int) (w : World) (h : RepL w v (.B zs)) (hf : (Lf.B zs).fit) (h0 : 0 ≤ left) (h1 : left ≤ 1048576) :
    Calls Try.prog 58 #[v, .int .i64 left] w (Left left (Lf.sz (.B zs)) w) := by
  obtain ⟨A, c, rfl, hr⟩ := h
  exact szBoolS A zs.length c left w hf h0 h1
set_option maxRecDepth 100000 in
theorem toLB (v : Value) (zs : List Bool) (w : World) (h : RepL w v (.B zs)) (hn : zs.length ≤ 1048576) :
    Calls Try.prog 62 #[v] w (GivesL zs.length (.B zs) w) := by
  obtain ⟨A, c, rfl, hr⟩ := h
  refine (toBoolS A zs.length c zs w rfl hn hr).mono ?_
  rintro e w' ⟨A1, n1, c1, rfl, L1, S1, K1, hb1⟩
  have := L1.out
  subst this
  exact ⟨_, _, rfl, Lib.hid ⟨A1, c1, rfl, S1.out⟩, Lib.hid (capL K1), hb1⟩
set_option maxRecDepth 100000 in
theorem eqLB (v v' : Value) (zs : List Bool) (w : World) (h : RepL w v (.B zs)) (h' : RepL w v' (.B zs)) (hn : zs.length ≤ maxLen) :
    Calls Try.prog 66 #[v, v'] w fun e w' => e = .returned (.bool true) ∧ Below w.heap.size w w' := by
  obtain ⟨A, c, rfl, hr⟩ := h
  obtain ⟨A', c', rfl, hr'⟩ := h'
  exact eqBoolSame A A' zs.length zs.length c c' zs w rfl rfl hn hr hr'
set_option maxRecDepth 100000 in
theorem markLB (v : Value) (zs : List Bool) (k lo hi : Nat) (w : World) (h : OwnL w lo hi v (.B zs)) (hk : 1 ≤ k) (hn : zs.length ≤ 4294967296) (hk2 : k ≤ 549755813888) :
    Calls Try.prog 96 #[v, .int .i64 (k : Int)] w (MarkedL lo hi v (.B zs) k w) := by
  obtain ⟨A, c, rfl, ho⟩ := h
  rcases Nat.eq_zero_or_pos zs.length with hz | hz
  · have hz' : zs = [] := List.eq_nil_of_length_eq_zero hz
    subst hz'
    refine (markBoolS A 0 c k 0 0 [] w rfl hk (by omega) (by omega) (.inl rfl)).mono ?_
    rintro e w' ⟨rfl, S, hb⟩
    exact ⟨rfl, Lib.hid ⟨A, c, rfl, .inl rfl⟩, touch_none hb⟩
  · rcases ho with rfl | ⟨b, m, f, rfl, h1, h2, hm, hr, hf⟩
    · simp at hz
    · refine (markBoolS _ zs.length c k b (b + 1) zs w rfl hk (by omega) (by omega) (.inr ⟨b, m, f, rfl, Nat.le_refl _, Nat.lt_succ_self _, hm, hr, hf⟩)).mono ?_
      rintro e w' ⟨rfl, S, hb⟩
      exact ⟨rfl, Lib.hid ⟨_, c, by simp [marksB], S.out.wide h1 h2⟩, touch_blk hz hb⟩
set_option maxRecDepth 100000 in
theorem heldLB (v : Value) (zs : List Bool) (k : Nat) (w : World) (h : RepL w v ((Lf.B zs).marks k)) (hk : 1 ≤ k) (hn : zs.length ≤ 4294967296) (hk2 : k ≤ 549755813888) :
    Calls Try.prog 97 #[v, .int .i64 (k : Int)] w fun e w' => e = .returned (.int .i64 ((k + (Lf.B zs).len : Nat) : Int)) ∧ Below w.heap.size w w' := by
  obtain ⟨A, c, rfl, hr⟩ := h
  have hl : (marksB k zs.length).length = zs.length := by simp [marksB]
  rw [hl]
  refine (heldBoolS A zs.length c k w hk (by omega) hr).mono ?_
  rintro e w' ⟨rfl, hb⟩
  exact ⟨rfl, hb ▸ Below.refl _ _⟩
end Go.Proofs.Ytdanefhfngmipaa

/- Lists of leaves: their sizes, marks and segments. -/
namespace Go.Proofs.Ytdanefhfngmipaa
open Go.RowKit

def lenA : List Lf → Nat
  | [] => 0
  | d :: ds => d.len + lenA ds
def szA : List Lf → Nat
  | [] => 0
  | d :: ds => d.sz + szA ds
def marksA : Nat → List Lf → List Lf
  | _, [] => []
  | k, d :: ds => d.marks k :: marksA (k + d.len) ds
def FitA (ds : List Lf) : Prop := ∀ d ∈ ds, d.fit
def BndA (ds : List Lf) : Prop := ∀ d ∈ ds, d.len ≤ 4294967296
def CapA (vs : List Value) : Prop := ∀ v ∈ vs, CapL v
theorem lenA_app (a b : List Lf) : lenA (a ++ b) = lenA a + lenA b := by
  induction a with
  | nil => simp [lenA]
  | cons d ds ih => simp [lenA, ih]; omega
theorem marksA_app (k : Nat) (a b : List Lf) : marksA k (a ++ b) = marksA k a ++ marksA (k + lenA a) b := by
  induction a generalizing k with
  | nil => simp [marksA, lenA]
  | cons d ds ih => simp [marksA, lenA, ih, Nat.add_assoc]
theorem szA_len (ds : List Lf) : lenA ds ≤ szA ds := by
  induction ds with
  | nil => simp [lenA, szA]
  | cons d ds ih => have := d.len_le; simp [lenA, szA]; omega
theorem lenA_mem {ds : List Lf} {d : Lf} (h : d ∈ ds) : d.len ≤ lenA ds := by
  induction ds with
  | nil => cases h
  | cons e ds ih =>
    rcases List.mem_cons.1 h with rfl | h
    · simp [lenA]
    · have := ih h; simp [lenA]; omega
theorem CapA.cons {v : Value} {vs : List Value} (h : CapL v) (k : CapA vs) : CapA (v :: vs) := fun u hu => by
  rcases List.mem_cons.1 hu with rfl | hu
  · exact h
  · exact k u hu
theorem CapA.nil : CapA [] := fun _ h => by cases h
theorem CapA.app {a b : List Value} (h : CapA a) (k : CapA b) : CapA (a ++ b) := fun u hu => by
  rcases List.mem_append.1 hu with hu | hu
  · exact h u hu
  · exact k u hu
theorem CapA.sub {a b : List Value} (h : CapA a) (hs : ∀ v ∈ b, v ∈ a) : CapA b := fun u hu => h u (hs u hu)
theorem FitA.sub {a b : List Lf} (h : FitA a) (hs : ∀ d ∈ b, d ∈ a) : FitA b := fun u hu => h u (hs u hu)
theorem BndA.sub {a b : List Lf} (h : BndA a) (hs : ∀ d ∈ b, d ∈ a) : BndA b := fun u hu => h u (hs u hu)
theorem BndA.of_len {ds : List Lf} (h : lenA ds ≤ 4294967296) : BndA ds := fun _ hd => Nat.le_trans (lenA_mem hd) h

theorem AllA.split {P : Value → Lf → Prop} : ∀ {a b : List Value} {da db : List Lf}, a.length = da.length → AllA P (a ++ b) (da ++ db) → AllA P a da ∧ AllA P b db
  | [], _, [], _, _, h => ⟨trivial, h⟩
  | _ :: _, _, _ :: _, _, hl, h => by
    have := AllA.split (by simpa using hl) h.2
    exact ⟨⟨h.1, this.1⟩, this.2⟩
  | [], _, _ :: _, _, hl, _ => by simp at hl
  | _ :: _, _, [], _, hl, _ => by simp at hl
theorem AllA.join {P : Value → Lf → Prop} : ∀ {a b : List Value} {da db : List Lf}, AllA P a da → AllA P b db → AllA P (a ++ b) (da ++ db)
  | [], _, [], _, _, k => k
  | _ :: _, _, _ :: _, _, h, k => ⟨h.1, AllA.join h.2 k⟩
  | [], _, _ :: _, _, h, _ => h.elim
  | _ :: _, _, [], _, h, _ => h.elim
theorem RepA.seg {w : World} {a m b : List Value} {da dm db : List Lf} (h : RepA w (a ++ (m ++ b)) (da ++ (dm ++ db))) (h1 : a.length = da.length) (h2 : m.length = dm.length) : RepA w m dm :=
  (AllA.split h2 (AllA.split h1 h).2).1
theorem OwnA.seg {w : World} {lo hi : Nat} {a m b : List Value} {da dm db : List Lf} (h : OwnA w lo hi (a ++ (m ++ b)) (da ++ (dm ++ db))) (h1 : a.length = da.length) (h2 : m.length = dm.length) : OwnA w lo hi m dm := by
  refine ⟨(AllA.split h2 (AllA.split h1 h.1).2).1, ?_⟩
  have := h.2
  rw [List.filterMap_append, List.filterMap_append, List.nodup_append] at this
  exact (List.nodup_append.1 this.2.1).1
/-- A segment was written anew, and nothing else. -/
theorem OwnA.reseg {w w' : World} {lo hi : Nat} {a m b : List Value} {da dm dm' db : List Lf} (h : OwnA w lo hi (a ++ (m ++ b)) (da ++ (dm ++ db))) (h1 : a.length = da.length) (h2 : m.length = dm.length) (k : OwnA w' lo hi m dm') (t : Touch m w w') : OwnA w' lo hi (a ++ (m ++ b)) (da ++ (dm' ++ db)) := by
  obtain ⟨ha, hmb⟩ := AllA.split h1 h.1
  obtain ⟨_, hb⟩ := AllA.split h2 hmb
  have hn := h.2
  rw [List.filterMap_append, List.filterMap_append, List.nodup_append] at hn
  obtain ⟨_, n2, n3⟩ := hn
  obtain ⟨_, _, n5⟩ := List.nodup_append.1 n2
  refine ⟨AllA.join (AllA.imp (fun v _ hv h => h.away t (fun x hx hm => ?_)) ha) (AllA.join k.1 (AllA.imp (fun v _ hv h => h.away t (fun x hx hm => ?_)) hb)), h.2⟩
  · exact n3 x (List.mem_filterMap.2 ⟨v, hv, hx⟩) x (List.mem_append.2 (.inl hm)) rfl
  · exact n5 x hm x (List.mem_filterMap.2 ⟨v, hv, hx⟩) rfl
theorem OwnA.one {w : World} {lo hi : Nat} {v : Value} {d : Lf} (h : OwnL w lo hi v d) : OwnA w lo hi [v] [d] := ⟨⟨h, trivial⟩, by
  cases hb : blkL v with
  | none => simp [hb]
  | some b => simp [hb]⟩
theorem OwnA.set {w : World} {lo hi : Nat} {vs : List Value} {ds : List Lf} (h : OwnA w lo hi vs ds) {p : Addr} (hp : p.block < lo) (u : Value) : OwnA (w.setCell p u) lo hi vs ds :=
  h.btw ((Btw.refl p.block (p.block + 1) w).setCell (Nat.le_refl _) (Nat.lt_succ_self _) u) (.inr hp)
theorem Touch.mem {m vs : List Value} {w w' : World} (h : Touch m w w') (hs : ∀ v ∈ m, v ∈ vs) : Touch vs w w' := h.more fun k hk => by
  obtain ⟨v, hv, he⟩ := List.mem_filterMap.1 hk
  exact List.mem_filterMap.2 ⟨v, hs v hv, he⟩
theorem Touch.chain {vs : List Value} {a b c : World} (h : Touch vs a b) (k : Touch vs b c) : Touch vs a c := (h.trans k).more fun x hx => by
  rw [List.filterMap_append, List.mem_append] at hx
  rcases hx with h | h <;> exact h
theorem Box.touch {w w' : World} {b lo hi : Nat} {t : TypeId} {cs : Array Value} {vs : List Value} {ds : List Lf} (X : Box w b t cs) (h : OwnA w lo hi vs ds) (k : Touch vs w w') (hb : b < lo ∨ hi ≤ b) : Box w' b t cs := X.btw (k.btw h) hb
theorem OwnA.len {w : World} {lo hi : Nat} {vs : List Value} {ds : List Lf} (h : OwnA w lo hi vs ds) : vs.length = ds.length := by
  have aux : ∀ {vs : List Value} {ds : List Lf}, AllA (OwnL w lo hi) vs ds → vs.length = ds.length := by
    intro vs
    induction vs with
    | nil => intro ds h; cases ds with
      | nil => rfl
      | cons => exact h.elim
    | cons v vs ih => intro ds h; cases ds with
      | nil => exact h.elim
      | cons d ds => simp [ih h.2]
  exact aux h.1
theorem repI {w : World} {A : Option Addr} {c : Nat} {zs : List Int} (h : RepL w (.slice A zs.length c) (.I zs)) : IntL w A zs := by
  obtain ⟨A', c', e, h⟩ := h
  injection e with e1 e2 e3
  subst e1
  exact h
theorem repB {w : World} {A : Option Addr} {c : Nat} {zs : List Bool} (h : RepL w (.slice A zs.length c) (.B zs)) : BoolL w A zs := by
  obtain ⟨A', c', e, h⟩ := h
  injection e with e1 e2 e3
  subst e1
  exact h
theorem repS {w : World} {A : Option Addr} {c : Nat} {zs : List ByteArray} (h : RepL w (.slice A zs.length c) (.S zs)) : StrL w A zs := by
  obtain ⟨A', c', e, h⟩ := h
  injection e with e1 e2 e3
  subst e1
  exact h
theorem lenS_mem {ss : List ByteArray} {s : ByteArray} (h : s ∈ ss) : s.size ≤ lenS ss := by
  induction ss with
  | nil => cases h
  | cons x ss ih =>
    have e : lenS (x :: ss) = x.size + lenS ss := by simp [lenS]
    rcases List.mem_cons.1 h with rfl | h
    · omega
    · have := ih h; omega
theorem fit_of_sz {ss : List ByteArray} (h : szA [.S ss] ≤ 1048576) : FitS ss := fun s hs => by
  have := lenS_mem hs
  simp only [szA, Lf.sz] at h
  unfold maxLen; omega
theorem OwnI.rowOf {w : World} {lo hi : Nat} {A : Option Addr} {zs : List Int} {c b : Nat} (h : OwnI w lo hi A zs) (hb : blkL (.slice A zs.length c) = some b) : ∃ m f, w.rowIs b 3 m f := by
  rcases h with rfl | ⟨g, m, f, rfl, _, _, _, hr, _⟩
  · rw [List.length_nil, blkL_zero] at hb; cases hb
  · rcases Nat.eq_zero_or_pos zs.length with hz | hz
    · rw [hz, blkL_zero] at hb; cases hb
    · rw [blkL_some hz] at hb; injection hb with hb; subst hb; exact ⟨m, f, hr⟩
theorem OwnB.rowOf {w : World} {lo hi : Nat} {A : Option Addr} {zs : List Bool} {c b : Nat} (h : OwnB w lo hi A zs) (hb : blkL (.slice A zs.length c) = some b) : ∃ m f, w.rowIs b 4 m f := by
  rcases h with rfl | ⟨g, m, f, rfl, _, _, _, hr, _⟩
  · rw [List.length_nil, blkL_zero] at hb; cases hb
  · rcases Nat.eq_zero_or_pos zs.length with hz | hz
    · rw [hz, blkL_zero] at hb; cases hb
    · rw [blkL_some hz] at hb; injection hb with hb; subst hb; exact ⟨m, f, hr⟩
theorem OwnS.rowOf {w : World} {lo hi : Nat} {A : Option Addr} {zs : List ByteArray} {c b : Nat} (h : OwnS w lo hi A zs) (hb : blkL (.slice A zs.length c) = some b) : ∃ m f, w.rowIs b 9 m f := by
  rcases h with rfl | ⟨g, m, f, rfl, _, _, _, hr, _⟩
  · rw [List.length_nil, blkL_zero] at hb; cases hb
  · rcases Nat.eq_zero_or_pos zs.length with hz | hz
    · rw [hz, blkL_zero] at hb; cases hb
    · rw [blkL_some hz] at hb; injection hb with hb; subst hb; exact ⟨m, f, hr⟩
/-- A []int and a []bool of the call's own are of two blocks. -/
theorem ownIB {w : World} {lo hi : Nat} {A C : Option Addr} {c d : Nat} {zs : List Int} {gs : List Bool} (h : OwnI w lo hi A zs) (g : OwnB w lo hi C gs) : OwnA w lo hi [.slice A zs.length c, .slice C gs.length d] [.I zs, .B gs] :=
  OwnA.cons ⟨A, c, rfl, h⟩ (OwnA.one ⟨C, d, rfl, g⟩) (fun b hb hm => by
    obtain ⟨m, f, hr⟩ := h.rowOf hb
    obtain ⟨v, hv, he⟩ := List.mem_filterMap.1 hm
    rw [List.mem_singleton] at hv
    subst hv
    obtain ⟨m', f', hr'⟩ := g.rowOf he
    exact row_ne hr hr' (by decide) rfl)
end Go.Proofs.Ytdanefhfngmipaa

/- The laws' own functions over Flash, on leaves. Written by gen_t.py. -/
namespace Go.Proofs.Ytdanefhfngmipaa
open Go.RowKit

set_option maxRecDepth 100000 in
set_option maxHeartbeats 2000000 in
theorem szFlashA (vA0 vA1 : Option Addr) (vc0 vc1 : Nat) (d0 : List Int) (d1 : List Bool) (d2 : Int) (left : Int) (w : World) (h : RepA w [.slice vA0 d0.length vc0, .slice vA1 d1.length vc1] [Lf.I d0, Lf.B d1]) (hf : FitA [Lf.I d0, Lf.B d1]) (h0 : 0 ≤ left) (h1 : left ≤ 1048576) :
    Calls Try.prog 22 #[.agg #[.slice vA0 d0.length vc0, .slice vA1 d1.length vc1, .int .i64 d2], .int .i64 left] w (Left left (szA [Lf.I d0, Lf.B d1]) w) := by
  have H0 := Lib.hid (fun W (hb : Below w.heap.size w W) l g0 g1 => szLI (.slice vA0 d0.length vc0) d0 l W ((h.below hb).1) (hf _ (by simp)) g0 g1)
  have H1 := Lib.hid (fun W (hb : Below w.heap.size w W) l g0 g1 => szLB (.slice vA1 d1.length vc1) d1 l W ((h.below hb).2.1) (hf _ (by simp)) g0 g1)
  have HR : Hid (szA [Lf.I d0, Lf.B d1] = (Lf.sz (Lf.I d0)) + (Lf.sz (Lf.B d1))) := Lib.hid (by simp only [szA]; omega)
  generalize szA [Lf.I d0, Lf.B d1] = sa at HR ⊢
  generalize (Lf.sz (Lf.I d0)) = z0 at HR H0
  generalize (Lf.sz (Lf.B d1)) = z1 at HR H1
  have hb0 := alloc_below w (.cells #[.slice vA0 d0.length vc0, .slice vA1 d1.length vc1, .int .i64 d2] 42)
  have X := Lib.hid (Box.new w 42 #[.slice vA0 d0.length vc0, .slice vA1 d1.length vc1, .int .i64 d2])
  clear h hf
  go_enter Try.func22, Try.ntmps22
  go_wp2_with fail
  refine (H0.out _ hb0 _ (by omega) (by omega)).mono ?_
  rintro e w1 ⟨hres, hc1⟩
  have X1 := Lib.hid (X.out.step hc1)
  have hb1 := bt hb0 hc1
  clear X hb0 hc1
  rcases hres with rfl | ⟨rfl, hle0⟩
  · go_wp2
    go_ret
    exact ⟨.inl rfl, hb1⟩
  have hp0 : ¬ left - (z0 : Int) < 0 := by omega
  have f1 := X1.out.cell 1 rfl
  go_wp2_with fail
  refine (H1.out _ hb1 _ (by omega) (by omega)).mono ?_
  rintro e w2 ⟨hres, hc2⟩
  have X2 := Lib.hid (X1.out.step hc2)
  have hb2 := bt hb1 hc2
  clear X1 hb1 hc2 f1
  rcases hres with rfl | ⟨rfl, hle1⟩
  · go_wp2
    go_ret
    exact ⟨.inl rfl, hb2⟩
  have hp1 : ¬ left - (z0 : Int) - (z1 : Int) < 0 := by omega
  go_wp2
  go_ret
  exact ⟨.inr ⟨ret_int (by have := HR.out; omega), by have := HR.out; omega⟩, hb2⟩

set_option maxRecDepth 100000 in
set_option maxHeartbeats 4000000 in
theorem toFlashA (vA0 vA1 : Option Addr) (vc0 vc1 : Nat) (d0 : List Int) (d1 : List Bool) (d2 : Int) (w : World) (h : RepA w [.slice vA0 d0.length vc0, .slice vA1 d1.length vc1] [Lf.I d0, Lf.B d1]) (hn : lenA [Lf.I d0, Lf.B d1] ≤ 1048576) :
    Calls Try.prog 24 #[.agg #[.slice vA0 d0.length vc0, .slice vA1 d1.length vc1, .int .i64 d2]] w (fun e w' => ∃ uA0 uA1 uc0 uc1, e = .returned (.agg #[.slice uA0 d0.length uc0, .slice uA1 d1.length uc1, .int .i64 d2]) ∧ Hid (OwnA w' w.heap.size w'.heap.size [.slice uA0 d0.length uc0, .slice uA1 d1.length uc1] [Lf.I d0, Lf.B d1]) ∧ Hid (CapA [.slice uA0 d0.length uc0, .slice uA1 d1.length uc1]) ∧ Below w.heap.size w w') := by
  obtain ⟨W0, hW0⟩ : ∃ W0, W0 = (((w.alloc (.cells #[.slice vA0 d0.length vc0, .slice vA1 d1.length vc1, .int .i64 d2] 42)).alloc (.cells #[.slice none 0 0, .slice none 0 0, .int .i64 0] 26)).alloc (.cells #[.slice none 0 0, .slice none 0 0, .int .i64 0] 26)) := ⟨_, rfl⟩
  have hs0 : W0.heap.size = w.heap.size + 1 + 1 + 1 := by rw [hW0]; simp
  have hb0 : Below w.heap.size w W0 := by rw [hW0]; exact (((Below.refl _ _).alloc (Nat.le_refl _) _).alloc (by simp) _).alloc (by simp; omega) _
  have X0 : Hid (Box W0 w.heap.size 42 #[.slice vA0 d0.length vc0, .slice vA1 d1.length vc1, .int .i64 d2]) := Lib.hid (by rw [hW0]; exact ((Box.new _ _ _).alloc _).alloc _)
  have Y0 : Hid (Box W0 (w.heap.size + 1) 26 #[.slice none 0 0, .slice none 0 0, .int .i64 0]) := Lib.hid (by rw [hW0]; simpa using (Box.new (w.alloc (.cells #[.slice vA0 d0.length vc0, .slice vA1 d1.length vc1, .int .i64 d2] 42)) 26 #[.slice none 0 0, .slice none 0 0, .int .i64 0]).alloc (.cells #[.slice none 0 0, .slice none 0 0, .int .i64 0] 26))
  have Z0 : Hid (Box W0 (w.heap.size + 1 + 1) 26 #[.slice none 0 0, .slice none 0 0, .int .i64 0]) := Lib.hid (by rw [hW0]; simpa using Box.new ((w.alloc (.cells #[.slice vA0 d0.length vc0, .slice vA1 d1.length vc1, .int .i64 d2] 42)).alloc (.cells #[.slice none 0 0, .slice none 0 0, .int .i64 0] 26)) 26 #[.slice none 0 0, .slice none 0 0, .int .i64 0])
  have O0 : Hid (OwnA W0 (w.heap.size + 3) W0.heap.size [] []) := Lib.hid (OwnA.nil _ _ _)
  have H0 := Lib.hid (fun W (hb : Below w.heap.size w W) => toLI (.slice vA0 d0.length vc0) d0 W ((h.below hb).1) (by simp only [lenA, Lf.len] at hn; omega))
  have H1 := Lib.hid (fun W (hb : Below w.heap.size w W) => toLB (.slice vA1 d1.length vc1) d1 W ((h.below hb).2.1) (by simp only [lenA, Lf.len] at hn; omega))
  have HW0 := Lib.hid hW0
  have HS0 := Lib.hid hs0
  clear h hn hW0 hs0
  go_enter Try.func24, Try.ntmps24
  go_wp2_with fail
  rw [← HW0.out]
  refine (H0.out _ hb0).mono ?_
  rintro e w1 ⟨uA0, uc0, rfl, N1, K0, hc⟩
  have hq0 : w.heap.size + 3 ≤ W0.heap.size := by have := Z0.out.lt; omega
  have X1 := Lib.hid (X0.out.step hc)
  have Y1 := Lib.hid (Y0.out.step hc)
  have Z1 := Lib.hid (Z0.out.step hc)
  have O1 : Hid (OwnA w1 (w.heap.size + 3) w1.heap.size [.slice uA0 d0.length uc0] [Lf.I d0]) := Lib.hid ((O0.out.below hc).append (OwnA.one N1.out) (.inl (Nat.le_refl _)) (Nat.le_refl _) hq0 hc.size (Nat.le_refl _))
  have hb1 := bt hb0 hc
  clear X0 Y0 Z0 O0 hb0 hc N1 hq0 HW0 HS0
  have fa1 := X1.out.cell 1 rfl
  have fz0 := Z1.out.cell 0 rfl
  have gz0 := Z1.out.frozen 0
  go_wp2_with fail
  obtain ⟨V1, hV1⟩ : ∃ V1, V1 = (w1.setCell ⟨w.heap.size + 1 + 1, 0, none⟩ (.slice uA0 d0.length uc0)) := ⟨_, rfl⟩
  have X2 : Hid (Box V1 w.heap.size 42 #[.slice vA0 d0.length vc0, .slice vA1 d1.length vc1, .int .i64 d2]) := Lib.hid (by rw [hV1]; exact (X1.out.far (p := ⟨w.heap.size + 1 + 1, 0, none⟩) (by show w.heap.size ≠ w.heap.size + 1 + 1; omega) (.slice uA0 d0.length uc0)))
  have Y2 : Hid (Box V1 (w.heap.size + 1) 26 #[.slice none 0 0, .slice none 0 0, .int .i64 0]) := Lib.hid (by rw [hV1]; exact (Y1.out.far (p := ⟨w.heap.size + 1 + 1, 0, none⟩) (by show w.heap.size + 1 ≠ w.heap.size + 1 + 1; omega) (.slice uA0 d0.length uc0)))
  have Z2 : Hid (Box V1 (w.heap.size + 1 + 1) 26 #[.slice uA0 d0.length uc0, .slice none 0 0, .int .i64 0]) := Lib.hid (by rw [hV1]; exact (Z1.out.set 0 (.slice uA0 d0.length uc0)))
  have hsz2 : V1.heap.size = w1.heap.size := by rw [hV1]; simp [World.setCell]
  have O2 : Hid (OwnA V1 (w.heap.size + 3) V1.heap.size [.slice uA0 d0.length uc0] [Lf.I d0]) := Lib.hid (by rw [hsz2, hV1]; exact (O1.out.set (p := ⟨w.heap.size + 1 + 1, 0, none⟩) (by show w.heap.size + 1 + 1 < w.heap.size + 3; omega) (.slice uA0 d0.length uc0)))
  have hb2 : Below w.heap.size w V1 := by rw [hV1]; exact (hb1.setCell (p := ⟨w.heap.size + 1 + 1, 0, none⟩) (by show w.heap.size ≤ w.heap.size + 1 + 1; omega) (.slice uA0 d0.length uc0))
  rw [← hV1]
  clear X1 Y1 Z1 O1 hb1 hV1 hsz2 fa1 fz0 gz0
  refine (H1.out _ hb2).mono ?_
  rintro e w2 ⟨uA1, uc1, rfl, N1, K1, hc⟩
  have hq0 : w.heap.size + 3 ≤ V1.heap.size := by have := Z2.out.lt; omega
  have X3 := Lib.hid (X2.out.step hc)
  have Y3 := Lib.hid (Y2.out.step hc)
  have Z3 := Lib.hid (Z2.out.step hc)
  have O3 : Hid (OwnA w2 (w.heap.size + 3) w2.heap.size [.slice uA0 d0.length uc0, .slice uA1 d1.length uc1] [Lf.I d0, Lf.B d1]) := Lib.hid ((O2.out.below hc).append (OwnA.one N1.out) (.inl (Nat.le_refl _)) (Nat.le_refl _) hq0 hc.size (Nat.le_refl _))
  have hb3 := bt hb2 hc
  clear X2 Y2 Z2 O2 hb2 hc N1 hq0
  have fa2 := X3.out.cell 2 rfl
  have fz1 := Z3.out.cell 1 rfl
  have gz1 := Z3.out.frozen 1
  have fz2 := Z3.out.cell 2 rfl
  have gz2 := Z3.out.frozen 2
  have fz0 := Z3.out.cell 0 rfl
  have fy0 := Y3.out.cell 0 rfl
  have gy0 := Y3.out.frozen 0
  have fy1 := Y3.out.cell 1 rfl
  have gy1 := Y3.out.frozen 1
  have fy2 := Y3.out.cell 2 rfl
  have gy2 := Y3.out.frozen 2
  go_wp2
  refine bodyPost_ret (v := .agg #[.slice uA0 d0.length uc0, .slice uA1 d1.length uc1, .int .i64 d2]) (by simp [results, Try.results24, go_sem, fy0, fy1, fy2]) rfl ?_
  refine ⟨uA0, uA1, uc0, uc1, rfl, Lib.hid (((((((O3.out.set (p := ⟨w.heap.size + 1 + 1, 1, none⟩) (by show w.heap.size + 1 + 1 < w.heap.size + 3; omega) _).set (p := ⟨w.heap.size + 1 + 1, 2, none⟩) (by show w.heap.size + 1 + 1 < w.heap.size + 3; omega) _).set (p := ⟨w.heap.size + 1, 0, none⟩) (by show w.heap.size + 1 < w.heap.size + 3; omega) _).set (p := ⟨w.heap.size + 1, 1, none⟩) (by show w.heap.size + 1 < w.heap.size + 3; omega) _).set (p := ⟨w.heap.size + 1, 2, none⟩) (by show w.heap.size + 1 < w.heap.size + 3; omega) _)).wide (by omega) (by simp [World.setCell])), Lib.hid (CapA.cons K0.out (CapA.cons K1.out CapA.nil)), (((((hb3.setCell (p := ⟨w.heap.size + 1 + 1, 1, none⟩) (by show w.heap.size ≤ w.heap.size + 1 + 1; omega) _).setCell (p := ⟨w.heap.size + 1 + 1, 2, none⟩) (by show w.heap.size ≤ w.heap.size + 1 + 1; omega) _).setCell (p := ⟨w.heap.size + 1, 0, none⟩) (by show w.heap.size ≤ w.heap.size + 1; omega) _).setCell (p := ⟨w.heap.size + 1, 1, none⟩) (by show w.heap.size ≤ w.heap.size + 1; omega) _).setCell (p := ⟨w.heap.size + 1, 2, none⟩) (by show w.heap.size ≤ w.heap.size + 1; omega) _)⟩

set_option maxRecDepth 100000 in
set_option maxHeartbeats 4000000 in
theorem eqFlashA (vA0 vA1 : Option Addr) (vc0 vc1 : Nat) (uA0 uA1 : Option Addr) (uc0 uc1 : Nat) (d0 : List Int) (d1 : List Bool) (d2 : Int) (w : World) (h : RepA w [.slice vA0 d0.length vc0, .slice vA1 d1.length vc1] [Lf.I d0, Lf.B d1]) (h' : RepA w [.slice uA0 d0.length uc0, .slice uA1 d1.length uc1] [Lf.I d0, Lf.B d1]) (hn : lenA [Lf.I d0, Lf.B d1] ≤ maxLen) :
    Calls Try.prog 26 #[.agg #[.slice vA0 d0.length vc0, .slice vA1 d1.length vc1, .int .i64 d2], .agg #[.slice uA0 d0.length uc0, .slice uA1 d1.length uc1, .int .i64 d2]] w fun e w' => e = .returned (.bool true) ∧ Below w.heap.size w w' := by
  have H0 := Lib.hid (fun W (hb : Below w.heap.size w W) => eqLI (.slice vA0 d0.length vc0) (.slice uA0 d0.length uc0) d0 W ((h.below hb).1) ((h'.below hb).1) (by simp only [lenA, Lf.len] at hn; omega))
  have H1 := Lib.hid (fun W (hb : Below w.heap.size w W) => eqLB (.slice vA1 d1.length vc1) (.slice uA1 d1.length uc1) d1 W ((h.below hb).2.1) ((h'.below hb).2.1) (by simp only [lenA, Lf.len] at hn; omega))
  obtain ⟨W0, hW0⟩ : ∃ W0, W0 = ((w.alloc (.cells #[.slice vA0 d0.length vc0, .slice vA1 d1.length vc1, .int .i64 d2] 26)).alloc (.cells #[.slice uA0 d0.length uc0, .slice uA1 d1.length uc1, .int .i64 d2] 26)) := ⟨_, rfl⟩
  have hb0 : Below w.heap.size w W0 := by rw [hW0]; exact ((Below.refl _ _).alloc (Nat.le_refl _) _).alloc (by simp) _
  have X0 : Hid (Box W0 w.heap.size 26 #[.slice vA0 d0.length vc0, .slice vA1 d1.length vc1, .int .i64 d2]) := Lib.hid (by rw [hW0]; exact (Box.new _ _ _).alloc _)
  have Y0 : Hid (Box W0 (w.heap.size + 1) 26 #[.slice uA0 d0.length uc0, .slice uA1 d1.length uc1, .int .i64 d2]) := Lib.hid (by rw [hW0]; simpa using Box.new (w.alloc (.cells #[.slice vA0 d0.length vc0, .slice vA1 d1.length vc1, .int .i64 d2] 26)) 26 #[.slice uA0 d0.length uc0, .slice uA1 d1.length uc1, .int .i64 d2])
  have HW0 := Lib.hid hW0
  have hq2 : (d2 != d2) = false := by simp
  clear hW0 h h' hn
  go_enter Try.func26, Try.ntmps26
  go_wp2_with fail
  rw [← HW0.out]
  refine (H0.out _ hb0).mono ?_
  rintro e w1 ⟨rfl, hc⟩
  have X1 := Lib.hid (X0.out.step hc)
  have Y1 := Lib.hid (Y0.out.step hc)
  have hb1 := bt hb0 hc
  clear X0 Y0 hb0 hc HW0
  have k1 := X1.out.cell 1 rfl
  have l1 := Y1.out.cell 1 rfl
  go_wp2_with fail
  refine (H1.out _ hb1).mono ?_
  rintro e w2 ⟨rfl, hc⟩
  have X2 := Lib.hid (X1.out.step hc)
  have Y2 := Lib.hid (Y1.out.step hc)
  have hb2 := bt hb1 hc
  clear X1 Y1 hb1 hc k1 l1
  have k2 := X2.out.cell 2 rfl
  have l2 := Y2.out.cell 2 rfl
  go_wp2
  go_ret
  exact ⟨rfl, hb2⟩

set_option maxRecDepth 100000 in
set_option maxHeartbeats 4000000 in
theorem markFlashA (vA0 vA1 : Option Addr) (vc0 vc1 : Nat) (d0 : List Int) (d1 : List Bool) (d2 : Int) (k lo hi : Nat) (w : World) (h : OwnA w lo hi [.slice vA0 d0.length vc0, .slice vA1 d1.length vc1] [Lf.I d0, Lf.B d1]) (hhi : hi ≤ w.heap.size) (hk : 1 ≤ k) (hB : BndA [Lf.I d0, Lf.B d1]) (hk2 : k + lenA [Lf.I d0, Lf.B d1] ≤ 549755813888) :
    Calls Try.prog 72 #[.agg #[.slice vA0 d0.length vc0, .slice vA1 d1.length vc1, .int .i64 d2], .int .i64 (k : Int)] w fun e w' => e = .returned (.int .i64 ((k + lenA [Lf.I d0, Lf.B d1] : Nat) : Int)) ∧ Hid (OwnA w' lo hi [.slice vA0 d0.length vc0, .slice vA1 d1.length vc1] (marksA k [Lf.I d0, Lf.B d1])) ∧ Touch [.slice vA0 d0.length vc0, .slice vA1 d1.length vc1] w w' := by
  have hb0 := alloc_below w (.cells #[.slice vA0 d0.length vc0, .slice vA1 d1.length vc1, .int .i64 d2] 26)
  have X0 := Lib.hid (Box.new w 26 #[.slice vA0 d0.length vc0, .slice vA1 d1.length vc1, .int .i64 d2])
  have O0 := Lib.hid (h.below hb0)
  have T0 := Lib.hid (Touch.of_below hb0 [.slice vA0 d0.length vc0, .slice vA1 d1.length vc1])
  have H0 := Lib.hid (fun W (o : OwnL W lo hi (.slice vA0 d0.length vc0) (Lf.I d0)) => markLI (.slice vA0 d0.length vc0) d0 (k) lo hi W o (by omega) (hB (Lf.I d0) (by simp)) (by simp only [lenA] at hk2 ⊢; omega))
  have H1 := Lib.hid (fun W (o : OwnL W lo hi (.slice vA1 d1.length vc1) (Lf.B d1)) => markLB (.slice vA1 d1.length vc1) d1 (k + (Lf.len (Lf.I d0))) lo hi W o (by omega) (hB (Lf.B d1) (by simp)) (by simp only [lenA] at hk2 ⊢; omega))
  have HH := Lib.hid hhi
  clear h hb0 hB hk2 hk hhi
  go_enter Try.func72, Try.ntmps72
  have G0 := OwnA.seg (a := []) (m := [.slice vA0 d0.length vc0]) (b := [.slice vA1 d1.length vc1]) (da := []) (dm := [Lf.I d0]) (db := [Lf.B d1]) O0.out rfl rfl
  have HC0 := Lib.hid (H0.out _ G0.1.1)
  clear G0
  go_wp2_with fail
  refine HC0.out.mono ?_
  rintro e w1 ⟨rfl, M0, U0⟩
  have O1 := Lib.hid (OwnA.reseg (a := []) (m := [.slice vA0 d0.length vc0]) (b := [.slice vA1 d1.length vc1]) (da := []) (dm := [Lf.I d0]) (db := [Lf.B d1]) (dm' := [(Lf.I d0).marks (k)]) O0.out rfl rfl (OwnA.one M0.out) U0)
  have T1 := Lib.hid (T0.out.chain (U0.mem (by simp +contextual)))
  have X1 : Hid (Box w1 w.heap.size 26 #[.slice vA0 d0.length vc0, .slice vA1 d1.length vc1, .int .i64 d2]) := Lib.hid (X0.out.touch (OwnA.seg (a := []) (m := [.slice vA0 d0.length vc0]) (b := [.slice vA1 d1.length vc1]) (da := []) (dm := [Lf.I d0]) (db := [Lf.B d1]) O0.out rfl rfl) U0 (.inr HH.out))
  clear X0 O0 T0 M0 U0 HC0
  have f1 := X1.out.cell 1 rfl
  have G1 := OwnA.seg (a := [.slice vA0 d0.length vc0]) (m := [.slice vA1 d1.length vc1]) (b := []) (da := [(Lf.I d0).marks (k)]) (dm := [Lf.B d1]) (db := []) O1.out rfl rfl
  have HC1 := Lib.hid (H1.out _ G1.1.1)
  clear G1
  go_wp2_with fail
  try rw [HKe1.out]
  refine HC1.out.mono ?_
  rintro e w2 ⟨rfl, M1, U1⟩
  have O2 := Lib.hid (OwnA.reseg (a := [.slice vA0 d0.length vc0]) (m := [.slice vA1 d1.length vc1]) (b := []) (da := [(Lf.I d0).marks (k)]) (dm := [Lf.B d1]) (db := []) (dm' := [(Lf.B d1).marks (k + (Lf.len (Lf.I d0)))]) O1.out rfl rfl (OwnA.one M1.out) U1)
  have T2 := Lib.hid (T1.out.chain (U1.mem (by simp +contextual)))
  have X2 : Hid (Box w2 w.heap.size 26 #[.slice vA0 d0.length vc0, .slice vA1 d1.length vc1, .int .i64 d2]) := Lib.hid (X1.out.touch (OwnA.seg (a := [.slice vA0 d0.length vc0]) (m := [.slice vA1 d1.length vc1]) (b := []) (da := [(Lf.I d0).marks (k)]) (dm := [Lf.B d1]) (db := []) O1.out rfl rfl) U1 (.inr HH.out))
  clear X1 O1 T1 M1 U1 HC1 f1
  go_wp2
  go_ret
  refine ⟨?_, Lib.hid ?_, T2.out⟩
  · refine ret_int ?_
    simp only [lenA]; omega
  · have := O2.out
    first | exact this | (simp only [marksA, lenA, List.cons_append, List.nil_append, Nat.add_zero, Nat.add_assoc] at this ⊢; exact this)

set_option maxRecDepth 100000 in
set_option maxHeartbeats 4000000 in
theorem heldFlashA (vA0 vA1 : Option Addr) (vc0 vc1 : Nat) (d0 : List Int) (d1 : List Bool) (d2 : Int) (k : Nat) (w : World) (h : RepA w [.slice vA0 d0.length vc0, .slice vA1 d1.length vc1] (marksA k [Lf.I d0, Lf.B d1])) (hk : 1 ≤ k) (hB : BndA [Lf.I d0, Lf.B d1]) (hk2 : k + lenA [Lf.I d0, Lf.B d1] ≤ 549755813888) :
    Calls Try.prog 74 #[.agg #[.slice vA0 d0.length vc0, .slice vA1 d1.length vc1, .int .i64 d2], .int .i64 (k : Int)] w fun e w' => e = .returned (.int .i64 ((k + lenA [Lf.I d0, Lf.B d1] : Nat) : Int)) ∧ Below w.heap.size w w' := by
  have hb0 := alloc_below w (.cells #[.slice vA0 d0.length vc0, .slice vA1 d1.length vc1, .int .i64 d2] 26)
  have X0 := Lib.hid (Box.new w 26 #[.slice vA0 d0.length vc0, .slice vA1 d1.length vc1, .int .i64 d2])
  simp only [marksA] at h
  have H0 := Lib.hid (fun W (hb : Below w.heap.size w W) => heldLI (.slice vA0 d0.length vc0) d0 (k) W (by have := (h.below hb).1; simpa only [Nat.add_assoc] using this) (by omega) (hB (Lf.I d0) (by simp)) (by simp only [lenA] at hk2 ⊢; omega))
  have H1 := Lib.hid (fun W (hb : Below w.heap.size w W) => heldLB (.slice vA1 d1.length vc1) d1 (k + (Lf.len (Lf.I d0))) W (by have := (h.below hb).2.1; simpa only [Nat.add_assoc] using this) (by omega) (hB (Lf.B d1) (by simp)) (by simp only [lenA] at hk2 ⊢; omega))
  clear h hB hk hk2
  go_enter Try.func74, Try.ntmps74
  go_wp2_with fail
  refine (H0.out _ hb0).mono ?_
  rintro e w1 ⟨rfl, hc⟩
  have X1 := Lib.hid (X0.out.step hc)
  have hb1 := bt hb0 hc
  clear X0 hb0 hc
  have hp0 : ¬ ((k + (Lf.len (Lf.I d0)) : Nat) : Int) < 0 := by omega
  have f1 := X1.out.cell 1 rfl
  go_wp2_with fail
  refine (H1.out _ hb1).mono ?_
  rintro e w2 ⟨rfl, hc⟩
  have X2 := Lib.hid (X1.out.step hc)
  have hb2 := bt hb1 hc
  clear X1 hb1 hc f1
  have hp1 : ¬ ((k + (Lf.len (Lf.I d0)) + (Lf.len (Lf.B d1)) : Nat) : Int) < 0 := by omega
  go_wp2
  go_ret
  exact ⟨ret_int (by simp only [lenA]; omega), hb2⟩

end Go.Proofs.Ytdanefhfngmipaa
