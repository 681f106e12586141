/- Texts of this claim, one behind the other: DrawChan, DrawChan2, DrawCoded, WalkDma, OpenBytes. -/
import Derived.Deep.RegionHeld3
import Derived.Test.YtagdclbpgkilgaaM8
/- The source's channel and dma: drawn channels that are valid. Written by gen_drawchan.py. -/
namespace Go.Proofs.Ytagdclbpgkilgaa
open Go.RowKit
theorem arr20c (T : Array Value) (h : T.size = 20) : ∃ t0 t1 t2 t3 t4 t5 t6 t7 t8 t9 t10 t11 t12 t13 t14 t15 t16 t17 t18 t19 : Value, T = #[t0, t1, t2, t3, t4, t5, t6, t7, t8, t9, t10, t11, t12, t13, t14, t15, t16, t17, t18, t19] := by
  obtain ⟨l⟩ := T
  match l, h with
  | [t0, t1, t2, t3, t4, t5, t6, t7, t8, t9, t10, t11, t12, t13, t14, t15, t16, t17, t18, t19], _ => exact ⟨t0, t1, t2, t3, t4, t5, t6, t7, t8, t9, t10, t11, t12, t13, t14, t15, t16, t17, t18, t19, rfl⟩

def chF (b h : Nat) : Nat → (Nat → Value) → World → Prop
  | 0, t, _ => t 3 = .pointer (some ⟨b, 0, none⟩)
  | 1, t, _ => ∃ v : Nat, t 4 = .int .i64 v ∧ v < 256
  | 2, t, _ => t 5 = .pointer (some ⟨b, 0, none⟩)
  | 3, t, _ => ∃ v : Nat, t 6 = .int .i64 v ∧ v < 256
  | 4, t, _ => t 7 = .pointer (some ⟨b, 0, none⟩)
  | 5, t, _ => ∃ v : Nat, t 8 = .int .i64 v ∧ v < 256
  | 6, t, _ => ∃ v : Nat, t 9 = .int .i64 v ∧ 512 ≤ v ∧ v < 768
  | 7, t, W => ∃ g, ∃ x y : Nat, t 10 = .slice (some ⟨g, 0, none⟩) 2 2 ∧ W.cell? ⟨g, 0, none⟩ = some (.int .i64 x) ∧ W.cell? ⟨g, 1, none⟩ = some (.int .i64 y) ∧ x < 768 ∧ y < 768 ∧ h < g
  | 8, t, _ => t 11 = .pointer (some ⟨b, 0, none⟩)
  | 9, t, _ => ∃ v : Nat, t 12 = .int .i64 v ∧ v < 2
  | 10, t, W => ∃ g, ∃ v x : Nat, t 13 = .pointer (some ⟨g, v, none⟩) ∧ W.cell? ⟨g, v, none⟩ = some (.int .i64 x) ∧ x < 768 ∧ h < g
  | 11, t, _ => ∃ x : Nat, t 14 = .int .i64 x ∧ x < 768
  | 12, t, _ => t 15 = .pointer (some ⟨b, 0, none⟩)
  | 13, t, _ => ∃ v : Nat, t 16 = .int .i64 v ∧ v < 4
  | 14, t, _ => t 17 = .pointer (some ⟨b, 0, none⟩)
  | 15, t, _ => ∃ v : Nat, t 18 = .int .i64 v ∧ v < 2
  | 16, t, _ => ∃ x1 x2 x3 x4 : Nat, t 19 = .agg #[.int .i64 x1, .int .i64 x2, .int .i64 x3, .int .i64 x4] ∧ x1 < 768 ∧ x2 < 768 ∧ x3 < 4 ∧ x4 < 2
  | 17, t, W => ∃ x1 x2 x3 x4 : Nat, Box W h 36 #[.int .i64 x1, .int .i64 x2, .int .i64 x3, .int .i64 x4] ∧ x1 < 768 ∧ x2 < 768 ∧ x3 < 4 ∧ x4 < 2
  | _, _, _ => True
/-- Whatever turns the source's block alone, or lays blocks, keeps them. -/
theorem chF_btw {b h : Nat} {W W' : World} (k : Btw b (b + 1) W W') (hb : b < h) : ∀ (j : Nat) (t : Nat → Value), chF b h j t W → chF b h j t W'
  | 0, _, e | 1, _, e | 2, _, e | 3, _, e | 4, _, e | 5, _, e | 6, _, e | 8, _, e | 9, _, e | 11, _, e | 12, _, e | 13, _, e | 14, _, e | 15, _, e | 16, _, e => e
  | 7, _, ⟨g, x, y, e, c0, c1, q1, q2, q3⟩ => ⟨g, x, y, e, (k.cell c0 (by show g < b ∨ b + 1 ≤ g; omega)), (k.cell c1 (by show g < b ∨ b + 1 ≤ g; omega)), q1, q2, q3⟩
  | 10, _, ⟨g, v, x, e, c0, q1, q2⟩ => ⟨g, v, x, e, (k.cell c0 (by show g < b ∨ b + 1 ≤ g; omega)), q1, q2⟩
  | 17, _, ⟨x1, x2, x3, x4, X, q⟩ => ⟨x1, x2, x3, x4, X.btw k (.inr (by omega)), q⟩
  | _ + 18, _, _ => trivial
theorem chF_store {b h : Nat} {W : World} (cs : Array Value) : ∀ (j : Nat) (t : Nat → Value), j ≠ 17 → chF b h j t W → chF b h j t (W.setRow h cs)
  | 0, _, _, e | 1, _, _, e | 2, _, _, e | 3, _, _, e | 4, _, _, e | 5, _, _, e | 6, _, _, e | 8, _, _, e | 9, _, _, e | 11, _, _, e | 12, _, _, e | 13, _, _, e | 14, _, _, e | 15, _, _, e | 16, _, _, e => e
  | 7, _, _, ⟨g, x, y, e, c0, c1, q1, q2, q3⟩ => ⟨g, x, y, e, (World.cell?_of_block (setRow_other W h g cs (by omega))).trans c0, (World.cell?_of_block (setRow_other W h g cs (by omega))).trans c1, q1, q2, q3⟩
  | 10, _, _, ⟨g, v, x, e, c0, q1, q2⟩ => ⟨g, v, x, e, (World.cell?_of_block (setRow_other W h g cs (by omega))).trans c0, q1, q2⟩
  | 17, _, m, _ => (m rfl).elim
  | _ + 18, _, _, _ => trivial
def cnt6 (L : Nat → Bool) : Nat := (if L 1 then 1 else 0) + (if L 3 then 1 else 0) + (if L 5 then 1 else 0) + (if L 9 then 1 else 0) + (if L 13 then 1 else 0) + (if L 15 then 1 else 0)
def ChC (w : World) (b : Nat) (A : Option Addr) (n c : Nat) (zs : List Nat) (K : Nat) (L : Nat → Bool) (W : World) : Prop :=
  Src W b A n c zs (K + cnt6 L) ∧ Btw b (b + 1) w W ∧ w.heap.size < W.heap.size ∧ (L 17 = false → ∃ cs : Array Value, cs.size = 4 ∧ Box W w.heap.size 36 cs)
theorem cnt6_le (L : Nat → Bool) : cnt6 L ≤ 6 := by unfold cnt6; (repeat' split) <;> omega
set_option maxRecDepth 100000 in
theorem infoCh4 : (Try.prog.info? 36).map (·.size) = some 4 := by kernel_rfl
theorem one4 {x1 x2 x3 x4 : Int} : (#[.int .i64 x1, .int .i64 x2, .int .i64 x3, .int .i64 x4] : Array Value).all (·.oneCell') = true := by simp [Value.oneCell']
/-- A drawn channel: valid. -/
def GivesCh (b : Nat) (A : Option Addr) (n c : Nat) (zs : List Nat) (K : Nat) (w : World) (e : Ending) (w' : World) : Prop :=
  ∃ x : TChannel, e = .returned (.agg #[.int .i64 x.1, .int .i64 x.2.1, .int .i64 x.2.2.1, .int .i64 x.2.2.2]) ∧ chB x = true ∧ Hid (Src w' b A n c zs (K + 6)) ∧ Btw b (b + 1) w w'
set_option maxRecDepth 100000 in
set_option maxHeartbeats 8000000 in
theorem srcChannel (b : Nat) (A : Option Addr) (n c : Nat) (zs : List Nat) (K' : Nat) (w : World) (hn : n ≤ maxLen) (hK : K' ≤ 1000) (h : Src w b A n c zs K') :
    Calls Try.prog 79 #[.pointer (some ⟨b, 0, none⟩)] w (GivesCh b A n c zs K' w) := by
  have HLt := Lib.hid h.lt
  have HNx := Lib.hid (fun N K W (h1 : 2 ≤ N) (h2 : N ≤ 256) (h3 : K ≤ 10000) (h : Src W b A n c zs K) => srcNext N b A n c zs K W h1 h2 (by omega) h)
  have hb0 := alloc_below w (.cells #[.int .i64 0, .int .i64 0, .int .i64 0, .int .i64 0] 36)
  have hC0 : ChC w b A n c zs K' (fun _ => false) (w.alloc (.cells #[.int .i64 0, .int .i64 0, .int .i64 0, .int .i64 0] 36)).drew := ⟨by simpa [cnt6] using (h.below hb0 HLt.out).drew, (Btw.of_below hb0 _ _).drew, by simp [World.drew], fun _ => ⟨_, rfl, (Box.new w 36 #[.int .i64 0, .int .i64 0, .int .i64 0, .int .i64 0]).drew⟩⟩
  clear h hb0
  go_enter Try.func79, Try.ntmps79
  go_wp2
  refine wp_region_sets (by kernel_rfl) [[3], [4], [5], [6], [7], [8], [9], [10], [11], [12], [13], [14], [15], [16], [17], [18], [19], []] [[], [0], [], [0, 1, 2], [], [0, 1, 2, 3, 4], [0, 1, 2, 3, 4, 5], [0, 1, 2, 3, 4, 5, 6], [], [0, 1, 2, 3, 4, 5, 8], [0, 1, 2, 3, 4, 5, 6, 7, 8, 9], [0, 1, 2, 3, 4, 5, 6, 7, 8, 9, 10], [], [0, 1, 2, 3, 4, 5, 8, 9, 12], [], [0, 1, 2, 3, 4, 5, 8, 9, 12, 13, 14], [0, 1, 2, 3, 4, 5, 6, 7, 8, 9, 10, 11, 12, 13, 14, 15], [0, 1, 2, 3, 4, 5, 6, 7, 8, 9, 10, 11, 12, 13, 14, 15, 16]] [0, 2] (by kernel_rfl) (ChC w b A n c zs K') (chF b w.heap.size) hC0 ?_ ?_
  · refine ⟨?_, ?_, ?_, ?_, ?_, ?_, ?_, ?_, ?_, ?_, ?_, ?_, ?_, ?_, ?_, ?_, ?_, ?_, trivial⟩
    · intro L T W hT hs hLi hLb hLc hC hF K hK
      obtain ⟨t0, t1, t2, t3, t4, t5, t6, t7, t8, t9, t10, t11, t12, t13, t14, t15, t16, t17, t18, t19, rfl⟩ := arr20c T hT
      obtain rfl : t0 = .pointer (some ⟨b, 0, none⟩) := hs 0 (by decide)
      obtain rfl : t2 = .pointer (some ⟨w.heap.size, 0, none⟩) := hs 2 (by decide)
      clear hF hs hT hLb hLc
      go_simp
      exact hK.out _ W (by unfold ChC at hC ⊢; simpa [cnt6] using hC) (fun _ _ _ h => h) rfl
    · intro L T W hT hs hLi hLb hLc hC hF K hK
      obtain ⟨t0, t1, t2, t3, t4, t5, t6, t7, t8, t9, t10, t11, t12, t13, t14, t15, t16, t17, t18, t19, rfl⟩ := arr20c T hT
      obtain rfl : t0 = .pointer (some ⟨b, 0, none⟩) := hs 0 (by decide)
      obtain rfl : t2 = .pointer (some ⟨w.heap.size, 0, none⟩) := hs 2 (by decide)
      have f0 := hF 0 (by decide)
      simp only [chF, mask] at f0
      have l3 : L 3 = false := by
        cases e : L 3 with
        | false => rfl
        | true => have := hLc 3 e 1 (by decide); rw [hLi] at this; cases this
      have l5 : L 5 = false := by
        cases e : L 5 with
        | false => rfl
        | true => have := hLc 5 e 1 (by decide); rw [hLi] at this; cases this
      have l9 : L 9 = false := by
        cases e : L 9 with
        | false => rfl
        | true => have := hLc 9 e 1 (by decide); rw [hLi] at this; cases this
      have l13 : L 13 = false := by
        cases e : L 13 with
        | false => rfl
        | true => have := hLc 13 e 1 (by decide); rw [hLi] at this; cases this
      have l15 : L 15 = false := by
        cases e : L 15 with
        | false => rfl
        | true => have := hLc 15 e 1 (by decide); rw [hLi] at this; cases this
      have l17 : L 17 = false := by
        cases e : L 17 with
        | false => rfl
        | true => have := hLc 17 e 1 (by decide); rw [hLi] at this; cases this
      have ec : cnt6 L = 0 := by unfold cnt6; simp [hLi, l3, l5, l9, l13, l15]
      have ed : cnt6 (fun j => if j = 1 then true else L j) = 1 := by unfold cnt6; simp [l3, l5, l9, l13, l15]
      subst f0
      obtain ⟨hS, hB, hz, hbx⟩ := hC
      rw [ec] at hS
      have HN := Lib.hid (HNx.out 256 (K' + 0) W (by omega) (by omega) (by omega) hS)
      have HX := Lib.hid (hbx l17)
      have hlt := HLt.out
      clear hF hs hT hLb hLc ec hS hbx hLi l3 l5 l9 l13 l15
      go_simp
      refine HN.out.mono ?_
      rintro e w1 ⟨v, rfl, hv, S1, k1⟩
      refine hK.out _ w1 ⟨by rw [ed]; exact S1.out, hB.trans k1, Nat.lt_of_lt_of_le hz k1.size, fun _ => ?_⟩ (fun j t _ h => chF_btw k1 hlt j t h) ⟨v, rfl, hv⟩
      obtain ⟨cs, q1, q2⟩ := HX.out
      exact ⟨cs, q1, q2.btw k1 (.inr (by omega))⟩
    · intro L T W hT hs hLi hLb hLc hC hF K hK
      obtain ⟨t0, t1, t2, t3, t4, t5, t6, t7, t8, t9, t10, t11, t12, t13, t14, t15, t16, t17, t18, t19, rfl⟩ := arr20c T hT
      obtain rfl : t0 = .pointer (some ⟨b, 0, none⟩) := hs 0 (by decide)
      obtain rfl : t2 = .pointer (some ⟨w.heap.size, 0, none⟩) := hs 2 (by decide)
      clear hF hs hT hLb hLc
      go_simp
      exact hK.out _ W (by unfold ChC at hC ⊢; simpa [cnt6] using hC) (fun _ _ _ h => h) rfl
    · intro L T W hT hs hLi hLb hLc hC hF K hK
      obtain ⟨t0, t1, t2, t3, t4, t5, t6, t7, t8, t9, t10, t11, t12, t13, t14, t15, t16, t17, t18, t19, rfl⟩ := arr20c T hT
      obtain rfl : t0 = .pointer (some ⟨b, 0, none⟩) := hs 0 (by decide)
      obtain rfl : t2 = .pointer (some ⟨w.heap.size, 0, none⟩) := hs 2 (by decide)
      have f2 := hF 2 (by decide)
      simp only [chF, mask] at f2
      have l1 : L 1 = true := hLb 1 (by decide)
      have l5 : L 5 = false := by
        cases e : L 5 with
        | false => rfl
        | true => have := hLc 5 e 3 (by decide); rw [hLi] at this; cases this
      have l9 : L 9 = false := by
        cases e : L 9 with
        | false => rfl
        | true => have := hLc 9 e 3 (by decide); rw [hLi] at this; cases this
      have l13 : L 13 = false := by
        cases e : L 13 with
        | false => rfl
        | true => have := hLc 13 e 3 (by decide); rw [hLi] at this; cases this
      have l15 : L 15 = false := by
        cases e : L 15 with
        | false => rfl
        | true => have := hLc 15 e 3 (by decide); rw [hLi] at this; cases this
      have l17 : L 17 = false := by
        cases e : L 17 with
        | false => rfl
        | true => have := hLc 17 e 3 (by decide); rw [hLi] at this; cases this
      have ec : cnt6 L = 1 := by unfold cnt6; simp [hLi, l1, l5, l9, l13, l15]
      have ed : cnt6 (fun j => if j = 3 then true else L j) = 2 := by unfold cnt6; simp [l1, l5, l9, l13, l15]
      subst f2
      obtain ⟨hS, hB, hz, hbx⟩ := hC
      rw [ec] at hS
      have HN := Lib.hid (HNx.out 256 (K' + 1) W (by omega) (by omega) (by omega) hS)
      have HX := Lib.hid (hbx l17)
      have hlt := HLt.out
      clear hF hs hT hLb hLc ec hS hbx hLi l1 l5 l9 l13 l15
      go_simp
      refine HN.out.mono ?_
      rintro e w1 ⟨v, rfl, hv, S1, k1⟩
      refine hK.out _ w1 ⟨by rw [ed]; exact S1.out, hB.trans k1, Nat.lt_of_lt_of_le hz k1.size, fun _ => ?_⟩ (fun j t _ h => chF_btw k1 hlt j t h) ⟨v, rfl, hv⟩
      obtain ⟨cs, q1, q2⟩ := HX.out
      exact ⟨cs, q1, q2.btw k1 (.inr (by omega))⟩
    · intro L T W hT hs hLi hLb hLc hC hF K hK
      obtain ⟨t0, t1, t2, t3, t4, t5, t6, t7, t8, t9, t10, t11, t12, t13, t14, t15, t16, t17, t18, t19, rfl⟩ := arr20c T hT
      obtain rfl : t0 = .pointer (some ⟨b, 0, none⟩) := hs 0 (by decide)
      obtain rfl : t2 = .pointer (some ⟨w.heap.size, 0, none⟩) := hs 2 (by decide)
      clear hF hs hT hLb hLc
      go_simp
      exact hK.out _ W (by unfold ChC at hC ⊢; simpa [cnt6] using hC) (fun _ _ _ h => h) rfl
    · intro L T W hT hs hLi hLb hLc hC hF K hK
      obtain ⟨t0, t1, t2, t3, t4, t5, t6, t7, t8, t9, t10, t11, t12, t13, t14, t15, t16, t17, t18, t19, rfl⟩ := arr20c T hT
      obtain rfl : t0 = .pointer (some ⟨b, 0, none⟩) := hs 0 (by decide)
      obtain rfl : t2 = .pointer (some ⟨w.heap.size, 0, none⟩) := hs 2 (by decide)
      have f4 := hF 4 (by decide)
      simp only [chF, mask] at f4
      have l1 : L 1 = true := hLb 1 (by decide)
      have l3 : L 3 = true := hLb 3 (by decide)
      have l9 : L 9 = false := by
        cases e : L 9 with
        | false => rfl
        | true => have := hLc 9 e 5 (by decide); rw [hLi] at this; cases this
      have l13 : L 13 = false := by
        cases e : L 13 with
        | false => rfl
        | true => have := hLc 13 e 5 (by decide); rw [hLi] at this; cases this
      have l15 : L 15 = false := by
        cases e : L 15 with
        | false => rfl
        | true => have := hLc 15 e 5 (by decide); rw [hLi] at this; cases this
      have l17 : L 17 = false := by
        cases e : L 17 with
        | false => rfl
        | true => have := hLc 17 e 5 (by decide); rw [hLi] at this; cases this
      have ec : cnt6 L = 2 := by unfold cnt6; simp [hLi, l1, l3, l9, l13, l15]
      have ed : cnt6 (fun j => if j = 5 then true else L j) = 3 := by unfold cnt6; simp [l1, l3, l9, l13, l15]
      subst f4
      obtain ⟨hS, hB, hz, hbx⟩ := hC
      rw [ec] at hS
      have HN := Lib.hid (HNx.out 256 (K' + 2) W (by omega) (by omega) (by omega) hS)
      have HX := Lib.hid (hbx l17)
      have hlt := HLt.out
      clear hF hs hT hLb hLc ec hS hbx hLi l1 l3 l9 l13 l15
      go_simp
      refine HN.out.mono ?_
      rintro e w1 ⟨v, rfl, hv, S1, k1⟩
      refine hK.out _ w1 ⟨by rw [ed]; exact S1.out, hB.trans k1, Nat.lt_of_lt_of_le hz k1.size, fun _ => ?_⟩ (fun j t _ h => chF_btw k1 hlt j t h) ⟨v, rfl, hv⟩
      obtain ⟨cs, q1, q2⟩ := HX.out
      exact ⟨cs, q1, q2.btw k1 (.inr (by omega))⟩
    · intro L T W hT hs hLi hLb hLc hC hF K hK
      obtain ⟨t0, t1, t2, t3, t4, t5, t6, t7, t8, t9, t10, t11, t12, t13, t14, t15, t16, t17, t18, t19, rfl⟩ := arr20c T hT
      obtain rfl : t0 = .pointer (some ⟨b, 0, none⟩) := hs 0 (by decide)
      obtain rfl : t2 = .pointer (some ⟨w.heap.size, 0, none⟩) := hs 2 (by decide)
      have f5 := hF 5 (by decide)
      simp only [chF, mask] at f5
      obtain ⟨v, e, hv⟩ := f5
      subst e
      have m1 : IntKind.i64.wrap (512 + (v : Int)) = 512 + (v : Int) := IntWalk.i64_in _ (by omega)
      clear hF hs hT hLb hLc
      go_simp
      exact hK.out _ W (by unfold ChC at hC ⊢; simpa [cnt6] using hC) (fun _ _ _ h => h) ⟨512 + v, by show Value.int .i64 (512 + (v : Int)) = _; congr 1, by omega, by omega⟩
    · intro L T W hT hs hLi hLb hLc hC hF K hK
      obtain ⟨t0, t1, t2, t3, t4, t5, t6, t7, t8, t9, t10, t11, t12, t13, t14, t15, t16, t17, t18, t19, rfl⟩ := arr20c T hT
      obtain rfl : t0 = .pointer (some ⟨b, 0, none⟩) := hs 0 (by decide)
      obtain rfl : t2 = .pointer (some ⟨w.heap.size, 0, none⟩) := hs 2 (by decide)
      have f3 := hF 3 (by decide)
      simp only [chF, mask] at f3
      have f6 := hF 6 (by decide)
      simp only [chF, mask] at f6
      obtain ⟨x, e, hx⟩ := f3
      subst e
      obtain ⟨y, e, hy1, hy2⟩ := f6
      subst e
      have k0 := alloc_below W (.cells #[.int .i64 x, .int .i64 y] 3)
      have X0 := Lib.hid (Box.new W 3 #[.int .i64 x, .int .i64 y])
      have hlt := HLt.out
      have hz := hC.2.2.1
      clear hF hs hT hLb hLc
      go_simp
      exact hK.out _ _ (by
        obtain ⟨hS, hB, hz, hbx⟩ := hC
        refine ⟨by simpa [cnt6] using hS.below k0 (by omega), btw_below hB k0 (by omega), Nat.lt_of_lt_of_le hz k0.size, fun l => ?_⟩
        obtain ⟨cs, q1, q2⟩ := hbx (by simpa using l)
        exact ⟨cs, q1, q2.step k0⟩) (fun j t _ h => chF_btw (Btw.of_below k0 b (b + 1)) hlt j t h) ⟨W.heap.size, x, y, rfl, X0.out.cell 0 rfl, X0.out.cell 1 rfl, by omega, by omega, hz⟩
    · intro L T W hT hs hLi hLb hLc hC hF K hK
      obtain ⟨t0, t1, t2, t3, t4, t5, t6, t7, t8, t9, t10, t11, t12, t13, t14, t15, t16, t17, t18, t19, rfl⟩ := arr20c T hT
      obtain rfl : t0 = .pointer (some ⟨b, 0, none⟩) := hs 0 (by decide)
      obtain rfl : t2 = .pointer (some ⟨w.heap.size, 0, none⟩) := hs 2 (by decide)
      clear hF hs hT hLb hLc
      go_simp
      exact hK.out _ W (by unfold ChC at hC ⊢; simpa [cnt6] using hC) (fun _ _ _ h => h) rfl
    · intro L T W hT hs hLi hLb hLc hC hF K hK
      obtain ⟨t0, t1, t2, t3, t4, t5, t6, t7, t8, t9, t10, t11, t12, t13, t14, t15, t16, t17, t18, t19, rfl⟩ := arr20c T hT
      obtain rfl : t0 = .pointer (some ⟨b, 0, none⟩) := hs 0 (by decide)
      obtain rfl : t2 = .pointer (some ⟨w.heap.size, 0, none⟩) := hs 2 (by decide)
      have f8 := hF 8 (by decide)
      simp only [chF, mask] at f8
      have l1 : L 1 = true := hLb 1 (by decide)
      have l3 : L 3 = true := hLb 3 (by decide)
      have l5 : L 5 = true := hLb 5 (by decide)
      have l13 : L 13 = false := by
        cases e : L 13 with
        | false => rfl
        | true => have := hLc 13 e 9 (by decide); rw [hLi] at this; cases this
      have l15 : L 15 = false := by
        cases e : L 15 with
        | false => rfl
        | true => have := hLc 15 e 9 (by decide); rw [hLi] at this; cases this
      have l17 : L 17 = false := by
        cases e : L 17 with
        | false => rfl
        | true => have := hLc 17 e 9 (by decide); rw [hLi] at this; cases this
      have ec : cnt6 L = 3 := by unfold cnt6; simp [hLi, l1, l3, l5, l13, l15]
      have ed : cnt6 (fun j => if j = 9 then true else L j) = 4 := by unfold cnt6; simp [l1, l3, l5, l13, l15]
      subst f8
      obtain ⟨hS, hB, hz, hbx⟩ := hC
      rw [ec] at hS
      have HN := Lib.hid (HNx.out 2 (K' + 3) W (by omega) (by omega) (by omega) hS)
      have HX := Lib.hid (hbx l17)
      have hlt := HLt.out
      clear hF hs hT hLb hLc ec hS hbx hLi l1 l3 l5 l13 l15
      go_simp
      refine HN.out.mono ?_
      rintro e w1 ⟨v, rfl, hv, S1, k1⟩
      refine hK.out _ w1 ⟨by rw [ed]; exact S1.out, hB.trans k1, Nat.lt_of_lt_of_le hz k1.size, fun _ => ?_⟩ (fun j t _ h => chF_btw k1 hlt j t h) ⟨v, rfl, hv⟩
      obtain ⟨cs, q1, q2⟩ := HX.out
      exact ⟨cs, q1, q2.btw k1 (.inr (by omega))⟩
    · intro L T W hT hs hLi hLb hLc hC hF K hK
      obtain ⟨t0, t1, t2, t3, t4, t5, t6, t7, t8, t9, t10, t11, t12, t13, t14, t15, t16, t17, t18, t19, rfl⟩ := arr20c T hT
      obtain rfl : t0 = .pointer (some ⟨b, 0, none⟩) := hs 0 (by decide)
      obtain rfl : t2 = .pointer (some ⟨w.heap.size, 0, none⟩) := hs 2 (by decide)
      have f7 := hF 7 (by decide)
      simp only [chF, mask] at f7
      have f9 := hF 9 (by decide)
      simp only [chF, mask] at f9
      obtain ⟨g, x, y, e, c0, c1, hx, hy, hg⟩ := f7
      subst e
      obtain ⟨v, e, hv⟩ := f9
      subst e
      have hvi : (v : Int) < 2 := by omega
      have hCs : ∃ z : Nat, W.cell? ⟨g, v, none⟩ = some (.int .i64 z) ∧ z < 768 := by
        have : v = 0 ∨ v = 1 := by omega
        rcases this with rfl | rfl
        · exact ⟨x, c0, hx⟩
        · exact ⟨y, c1, hy⟩
      have HCs := Lib.hid hCs
      clear hF hs hT hLb hLc c0 c1 hx hy hCs
      go_simp
      obtain ⟨z, q1, q2⟩ := HCs.out
      exact hK.out _ W (by unfold ChC at hC ⊢; simpa [cnt6] using hC) (fun _ _ _ h => h) ⟨g, v, z, rfl, q1, q2, hg⟩
    · intro L T W hT hs hLi hLb hLc hC hF K hK
      obtain ⟨t0, t1, t2, t3, t4, t5, t6, t7, t8, t9, t10, t11, t12, t13, t14, t15, t16, t17, t18, t19, rfl⟩ := arr20c T hT
      obtain rfl : t0 = .pointer (some ⟨b, 0, none⟩) := hs 0 (by decide)
      obtain rfl : t2 = .pointer (some ⟨w.heap.size, 0, none⟩) := hs 2 (by decide)
      have f10 := hF 10 (by decide)
      simp only [chF, mask] at f10
      obtain ⟨g, v, x, e, c0, hx, hg⟩ := f10
      subst e
      clear hF hs hT hLb hLc
      go_simp
      exact hK.out _ W (by unfold ChC at hC ⊢; simpa [cnt6] using hC) (fun _ _ _ h => h) ⟨x, rfl, hx⟩
    · intro L T W hT hs hLi hLb hLc hC hF K hK
      obtain ⟨t0, t1, t2, t3, t4, t5, t6, t7, t8, t9, t10, t11, t12, t13, t14, t15, t16, t17, t18, t19, rfl⟩ := arr20c T hT
      obtain rfl : t0 = .pointer (some ⟨b, 0, none⟩) := hs 0 (by decide)
      obtain rfl : t2 = .pointer (some ⟨w.heap.size, 0, none⟩) := hs 2 (by decide)
      clear hF hs hT hLb hLc
      go_simp
      exact hK.out _ W (by unfold ChC at hC ⊢; simpa [cnt6] using hC) (fun _ _ _ h => h) rfl
    · intro L T W hT hs hLi hLb hLc hC hF K hK
      obtain ⟨t0, t1, t2, t3, t4, t5, t6, t7, t8, t9, t10, t11, t12, t13, t14, t15, t16, t17, t18, t19, rfl⟩ := arr20c T hT
      obtain rfl : t0 = .pointer (some ⟨b, 0, none⟩) := hs 0 (by decide)
      obtain rfl : t2 = .pointer (some ⟨w.heap.size, 0, none⟩) := hs 2 (by decide)
      have f12 := hF 12 (by decide)
      simp only [chF, mask] at f12
      have l1 : L 1 = true := hLb 1 (by decide)
      have l3 : L 3 = true := hLb 3 (by decide)
      have l5 : L 5 = true := hLb 5 (by decide)
      have l9 : L 9 = true := hLb 9 (by decide)
      have l15 : L 15 = false := by
        cases e : L 15 with
        | false => rfl
        | true => have := hLc 15 e 13 (by decide); rw [hLi] at this; cases this
      have l17 : L 17 = false := by
        cases e : L 17 with
        | false => rfl
        | true => have := hLc 17 e 13 (by decide); rw [hLi] at this; cases this
      have ec : cnt6 L = 4 := by unfold cnt6; simp [hLi, l1, l3, l5, l9, l15]
      have ed : cnt6 (fun j => if j = 13 then true else L j) = 5 := by unfold cnt6; simp [l1, l3, l5, l9, l15]
      subst f12
      obtain ⟨hS, hB, hz, hbx⟩ := hC
      rw [ec] at hS
      have HN := Lib.hid (HNx.out 4 (K' + 4) W (by omega) (by omega) (by omega) hS)
      have HX := Lib.hid (hbx l17)
      have hlt := HLt.out
      clear hF hs hT hLb hLc ec hS hbx hLi l1 l3 l5 l9 l15
      go_simp
      refine HN.out.mono ?_
      rintro e w1 ⟨v, rfl, hv, S1, k1⟩
      refine hK.out _ w1 ⟨by rw [ed]; exact S1.out, hB.trans k1, Nat.lt_of_lt_of_le hz k1.size, fun _ => ?_⟩ (fun j t _ h => chF_btw k1 hlt j t h) ⟨v, rfl, hv⟩
      obtain ⟨cs, q1, q2⟩ := HX.out
      exact ⟨cs, q1, q2.btw k1 (.inr (by omega))⟩
    · intro L T W hT hs hLi hLb hLc hC hF K hK
      obtain ⟨t0, t1, t2, t3, t4, t5, t6, t7, t8, t9, t10, t11, t12, t13, t14, t15, t16, t17, t18, t19, rfl⟩ := arr20c T hT
      obtain rfl : t0 = .pointer (some ⟨b, 0, none⟩) := hs 0 (by decide)
      obtain rfl : t2 = .pointer (some ⟨w.heap.size, 0, none⟩) := hs 2 (by decide)
      clear hF hs hT hLb hLc
      go_simp
      exact hK.out _ W (by unfold ChC at hC ⊢; simpa [cnt6] using hC) (fun _ _ _ h => h) rfl
    · intro L T W hT hs hLi hLb hLc hC hF K hK
      obtain ⟨t0, t1, t2, t3, t4, t5, t6, t7, t8, t9, t10, t11, t12, t13, t14, t15, t16, t17, t18, t19, rfl⟩ := arr20c T hT
      obtain rfl : t0 = .pointer (some ⟨b, 0, none⟩) := hs 0 (by decide)
      obtain rfl : t2 = .pointer (some ⟨w.heap.size, 0, none⟩) := hs 2 (by decide)
      have f14 := hF 14 (by decide)
      simp only [chF, mask] at f14
      have l1 : L 1 = true := hLb 1 (by decide)
      have l3 : L 3 = true := hLb 3 (by decide)
      have l5 : L 5 = true := hLb 5 (by decide)
      have l9 : L 9 = true := hLb 9 (by decide)
      have l13 : L 13 = true := hLb 13 (by decide)
      have l17 : L 17 = false := by
        cases e : L 17 with
        | false => rfl
        | true => have := hLc 17 e 15 (by decide); rw [hLi] at this; cases this
      have ec : cnt6 L = 5 := by unfold cnt6; simp [hLi, l1, l3, l5, l9, l13]
      have ed : cnt6 (fun j => if j = 15 then true else L j) = 6 := by unfold cnt6; simp [l1, l3, l5, l9, l13]
      subst f14
      obtain ⟨hS, hB, hz, hbx⟩ := hC
      rw [ec] at hS
      have HN := Lib.hid (HNx.out 2 (K' + 5) W (by omega) (by omega) (by omega) hS)
      have HX := Lib.hid (hbx l17)
      have hlt := HLt.out
      clear hF hs hT hLb hLc ec hS hbx hLi l1 l3 l5 l9 l13
      go_simp
      refine HN.out.mono ?_
      rintro e w1 ⟨v, rfl, hv, S1, k1⟩
      refine hK.out _ w1 ⟨by rw [ed]; exact S1.out, hB.trans k1, Nat.lt_of_lt_of_le hz k1.size, fun _ => ?_⟩ (fun j t _ h => chF_btw k1 hlt j t h) ⟨v, rfl, hv⟩
      obtain ⟨cs, q1, q2⟩ := HX.out
      exact ⟨cs, q1, q2.btw k1 (.inr (by omega))⟩
    · intro L T W hT hs hLi hLb hLc hC hF K hK
      obtain ⟨t0, t1, t2, t3, t4, t5, t6, t7, t8, t9, t10, t11, t12, t13, t14, t15, t16, t17, t18, t19, rfl⟩ := arr20c T hT
      obtain rfl : t0 = .pointer (some ⟨b, 0, none⟩) := hs 0 (by decide)
      obtain rfl : t2 = .pointer (some ⟨w.heap.size, 0, none⟩) := hs 2 (by decide)
      have f1 := hF 1 (by decide)
      simp only [chF, mask] at f1
      have f11 := hF 11 (by decide)
      simp only [chF, mask] at f11
      have f13 := hF 13 (by decide)
      simp only [chF, mask] at f13
      have f15 := hF 15 (by decide)
      simp only [chF, mask] at f15
      obtain ⟨x1, e, h1⟩ := f1
      subst e
      obtain ⟨x2, e, h2⟩ := f11
      subst e
      obtain ⟨x3, e, h3⟩ := f13
      subst e
      obtain ⟨x4, e, h4⟩ := f15
      subst e
      clear hF hs hT hLb hLc
      go_simp
      exact hK.out _ W (by unfold ChC at hC ⊢; simpa [cnt6] using hC) (fun _ _ _ h => h) ⟨x1, x2, x3, x4, rfl, by omega, h2, h3, h4⟩
    · intro L T W hT hs hLi hLb hLc hC hF K hK
      obtain ⟨t0, t1, t2, t3, t4, t5, t6, t7, t8, t9, t10, t11, t12, t13, t14, t15, t16, t17, t18, t19, rfl⟩ := arr20c T hT
      obtain rfl : t0 = .pointer (some ⟨b, 0, none⟩) := hs 0 (by decide)
      obtain rfl : t2 = .pointer (some ⟨w.heap.size, 0, none⟩) := hs 2 (by decide)
      have f16 := hF 16 (by decide)
      simp only [chF, mask] at f16
      obtain ⟨x1, x2, x3, x4, e, q⟩ := f16
      subst e
      obtain ⟨hS, hB, hz, hbx⟩ := hC
      obtain ⟨cs, q1, X⟩ := hbx hLi
      have hlt := HLt.out
      have k1 : Btw w.heap.size (w.heap.size + 1) W (W.setRow w.heap.size #[.int .i64 x1, .int .i64 x2, .int .i64 x3, .int .i64 x4]) := btw_setRow (Btw.refl _ _ _) (Nat.le_refl _) (Nat.lt_succ_self _) _
      have k2 : Below w.heap.size W (W.setRow w.heap.size #[.int .i64 x1, .int .i64 x2, .int .i64 x3, .int .i64 x4]) := k1.below (by omega)
      refine wp_store_row 36 (.tmp 2) (.tmp 19) rfl w.heap.size #[.int .i64 x1, .int .i64 x2, .int .i64 x3, .int .i64 x4] rfl rfl 36 cs X infoCh4 (by rw [q1]; rfl) one4 ?_
      exact hK.out _ _ ⟨by simpa [cnt6] using hS.below k2 hlt, btw_below hB k2 (Nat.le_refl _), Nat.lt_of_lt_of_le hz k1.size, fun l => by simp at l⟩ (fun j t m h => chF_store _ j t m h) ⟨x1, x2, x3, x4, X.setRow _, q⟩
  · intro T W hT hs hC hF
    obtain ⟨t0, t1, t2, t3, t4, t5, t6, t7, t8, t9, t10, t11, t12, t13, t14, t15, t16, t17, t18, t19, rfl⟩ := arr20c T hT
    obtain rfl : t0 = .pointer (some ⟨b, 0, none⟩) := hs 0 (by decide)
    obtain rfl : t2 = .pointer (some ⟨w.heap.size, 0, none⟩) := hs 2 (by decide)
    obtain ⟨L, _, hS, hB, hz, _⟩ := hC
    obtain ⟨x1, x2, x3, x4, X, h1, h2, h3, h4⟩ := hF 17 (by decide)
    have y0 := X.cell 0 rfl
    have y1 := X.cell 1 rfl
    have y2 := X.cell 2 rfl
    have y3 := X.cell 3 rfl
    have HF : Hid (chB ((x1 : Int), (x2 : Int), (x3 : Int), (x4 : Int)) = true ∧ Src W b A n c zs (K' + 6) ∧ Btw b (b + 1) w W) := Lib.hid ⟨by unfold chB adC byC upB; simp; omega, hS.mono (by have := cnt6_le L; omega), hB⟩
    clear hF hs hT hS hB hz X h1 h2 h3 h4 HNx hC0
    go_wp2
    refine bodyPost_ret (v := .agg #[.int .i64 x1, .int .i64 x2, .int .i64 x3, .int .i64 x4]) (by simp [results, Try.results79, go_sem, y0, y1, y2, y3]) rfl ?_
    exact ⟨((x1 : Int), (x2 : Int), (x3 : Int), (x4 : Int)), rfl, HF.out.1, Lib.hid HF.out.2.1, HF.out.2.2⟩
end Go.Proofs.Ytagdclbpgkilgaa

/- The source's dma: four drawn channels; spec.ChannelsOf. -/
namespace Go.Proofs.Ytagdclbpgkilgaa
open Go.RowKit

theorem own4 {w : World} {lo hi b : Nat} {x y z u : TChannel} (X : Box w b 36 #[.int .i64 x.1, .int .i64 x.2.1, .int .i64 x.2.2.1, .int .i64 x.2.2.2, .int .i64 y.1, .int .i64 y.2.1, .int .i64 y.2.2.1, .int .i64 y.2.2.2, .int .i64 z.1, .int .i64 z.2.1, .int .i64 z.2.2.1, .int .i64 z.2.2.2, .int .i64 u.1, .int .i64 u.2.1, .int .i64 u.2.2.1, .int .i64 u.2.2.2]) (h1 : lo ≤ b) (h2 : b < hi) : OwnChannel w lo hi (some ⟨b, 0, none⟩) [x, y, z, u] :=
  .inr ⟨b, 16, fun i => #[Value.int .i64 x.1, .int .i64 x.2.1, .int .i64 x.2.2.1, .int .i64 x.2.2.2, .int .i64 y.1, .int .i64 y.2.1, .int .i64 y.2.2.1, .int .i64 y.2.2.2, .int .i64 z.1, .int .i64 z.2.1, .int .i64 z.2.2.1, .int .i64 z.2.2.2, .int .i64 u.1, .int .i64 u.2.1, .int .i64 u.2.2.1, .int .i64 u.2.2.2].getD i undef, rfl, h1, h2, by simp, ⟨_, X, rfl, fun i hi => by simp [Array.getD, hi]⟩, fun i hi j hj => by
    have hi' : i = 0 ∨ i = 1 ∨ i = 2 ∨ i = 3 := by
      have : i < 4 := by simpa using hi
      omega
    have hj' : j = 0 ∨ j = 1 ∨ j = 2 ∨ j = 3 := by omega
    rcases hi' with rfl | rfl | rfl | rfl <;> rcases hj' with rfl | rfl | rfl | rfl <;> rfl⟩
/-- Four drawn channels: valid, of its own. -/
def GivesDma (w : World) (R : World → Prop) (e : Ending) (w' : World) : Prop :=
  ∃ rs A c, e = .returned (.slice A 4 c) ∧ Hid (dmaB rs = true) ∧ Hid (OwnChannel w' w.heap.size w'.heap.size A rs) ∧ Hid (R w')
set_option maxRecDepth 100000 in
set_option maxHeartbeats 4000000 in
theorem srcDma (b : Nat) (A : Option Addr) (n c : Nat) (zs : List Nat) (K : Nat) (w : World) (hn : n ≤ maxLen) (hK : K ≤ 900) (h : Src w b A n c zs K) :
    Calls Try.prog 48 #[.pointer (some ⟨b, 0, none⟩)] w (GivesDma w (fun w' => Src w' b A n c zs (K + 24) ∧ Btw b (b + 1) w w')) := by
  have HC := Lib.hid (fun K W (hk : K ≤ 1000) (h : Src W b A n c zs K) => srcChannel b A n c zs K W hn hk h)
  unfold GivesCh at HC
  have HS := Lib.hid h
  have HLt := Lib.hid h.lt
  clear h hn
  go_enter Try.func48, Try.ntmps48
  go_wp2_with fail
  refine (HC.out K _ (by omega) HS.out).mono ?_
  rintro e w1 ⟨x, rfl, hx, S1, k1⟩
  go_wp2_with fail
  refine (HC.out (K + 6) _ (by omega) S1.out).mono ?_
  rintro e w2 ⟨y, rfl, hy, S2, k2⟩
  go_wp2_with fail
  refine (HC.out (K + 6 + 6) _ (by omega) S2.out).mono ?_
  rintro e w3 ⟨z, rfl, hz, S3, k3⟩
  go_wp2_with fail
  refine (HC.out (K + 6 + 6 + 6) _ (by omega) S3.out).mono ?_
  rintro e w4 ⟨u, rfl, hu, S4, k4⟩
  have hB := ((k1.trans k2).trans k3).trans k4
  have HD : Hid (dmaB [x, y, z, u] = true) := Lib.hid (by unfold dmaB; simp [hx, hy, hz, hu])
  have k5 := alloc_below w4 (.cells #[.int .i64 x.1, .int .i64 x.2.1, .int .i64 x.2.2.1, .int .i64 x.2.2.2, .int .i64 y.1, .int .i64 y.2.1, .int .i64 y.2.2.1, .int .i64 y.2.2.2, .int .i64 z.1, .int .i64 z.2.1, .int .i64 z.2.2.1, .int .i64 z.2.2.2, .int .i64 u.1, .int .i64 u.2.1, .int .i64 u.2.2.1, .int .i64 u.2.2.2] 36)
  have X5 := Lib.hid (Box.new w4 36 #[.int .i64 x.1, .int .i64 x.2.1, .int .i64 x.2.2.1, .int .i64 x.2.2.2, .int .i64 y.1, .int .i64 y.2.1, .int .i64 y.2.2.1, .int .i64 y.2.2.2, .int .i64 z.1, .int .i64 z.2.1, .int .i64 z.2.2.1, .int .i64 z.2.2.2, .int .i64 u.1, .int .i64 u.2.1, .int .i64 u.2.2.1, .int .i64 u.2.2.2])
  have HB := Lib.hid hB
  have hsz := hB.size
  clear HC HS S1 S2 S3 hx hy hz hu k1 k2 k3 k4 hB
  go_wp2
  go_ret
  exact ⟨[x, y, z, u], _, _, rfl, HD, Lib.hid (own4 X5.out hsz X5.out.lt), Lib.hid ⟨S4.out.below k5 S4.out.lt, btw_below HB.out k5 hsz⟩⟩
set_option maxRecDepth 100000 in
theorem channelsOf (A : Option Addr) (n c : Nat) (zs : List Nat) (w : World) (hn : n ≤ maxLen) (hl : zs.length = n) (h : ByB w w.heap.size A zs) :
    Calls Try.prog 16 #[.slice A n c] w (GivesDma w (fun w' => Below w.heap.size w w')) := by
  have HC := Lib.hid (srcNew A n c zs w hn hl h)
  have HF := Lib.hid (fun W (h : Src W w.heap.size A n c zs 0) => srcDma w.heap.size A n c zs 0 W hn (by omega) h)
  unfold GivesDma at HF
  clear hn hl h
  go_enter Try.func16, Try.ntmps16
  go_wp2_with fail
  refine HC.out.mono ?_
  rintro e w1 ⟨rfl, S1, hb1⟩
  go_wp2_with fail
  refine (HF.out w1 S1.out).mono ?_
  rintro e w2 ⟨rs, B, d, rfl, HD, HO, HR⟩
  go_wp2
  go_ret
  exact ⟨rs, B, d, rfl, HD, Lib.hid (OwnR.wide HO.out hb1.size (Nat.le_refl _)), Lib.hid (hb1.trans (HR.out.2.below hb1.size))⟩
end Go.Proofs.Ytagdclbpgkilgaa

/- The source's coded: a memory with a drawn program. Written by gen_coded.py. -/
namespace Go.Proofs.Ytagdclbpgkilgaa
open Go.RowKit

/-- A coded memory in the making. -/
structure MC (w : World) (b : Nat) (A : Option Addr) (n c : Nat) (zs : List Nat) (K D b0 c0 c1 : Nat) (A1 A2 : Option Addr) (c2 : Nat) (C3 : Option Addr) (c3 : Nat) (io zz : List Int) (gg : List Bool) (W : World) : Prop where
  btw : Btw b (b + 1) w W
  s : Src W b A n c zs K
  r : Box W w.heap.size 28 #[.slice none 0 0, .slice none 0 0, .slice none 0 0, .slice none 0 0, .int .i64 0]
  x : Box W D 28 #[.slice (some ⟨b0, 0, none⟩) 256 c0, .slice A1 32 c1, .slice A2 256 c2, .slice C3 16 c3, .int .i64 0]
  O : ∃ ram : List Int, ram.length = 256 ∧ ram.all byB = true ∧ OwnA W w.heap.size W.heap.size [.slice (some ⟨b0, 0, none⟩) 256 c0, .slice A1 32 c1, .slice A2 256 c2, .slice C3 16 c3] [.I ram, .I io, .I zz, .B gg]
  lt : b < w.heap.size
  dl : w.heap.size + 1 ≤ D
section
variable {w : World} {b : Nat} {A : Option Addr} {n c : Nat} {zs : List Nat} {K D b0 c0 c1 : Nat} {A1 A2 : Option Addr} {c2 : Nat} {C3 : Option Addr} {c3 : Nat} {io zz : List Int} {gg : List Bool} {W W2 : World}
theorem MC.mono {K2 : Nat} (h : MC w b A n c zs K D b0 c0 c1 A1 A2 c2 C3 c3 io zz gg W) (hk : K ≤ K2) : MC w b A n c zs K2 D b0 c0 c1 A1 A2 c2 C3 c3 io zz gg W := ⟨h.btw, h.s.mono hk, h.r, h.x, h.O, h.lt, h.dl⟩
theorem MC.next {K2 : Nat} (h : MC w b A n c zs K D b0 c0 c1 A1 A2 c2 C3 c3 io zz gg W) (S : Src W2 b A n c zs K2) (hb : Btw b (b + 1) W W2) : MC w b A n c zs K2 D b0 c0 c1 A1 A2 c2 C3 c3 io zz gg W2 := by
  have hl := h.lt
  have hd := h.dl
  refine ⟨h.btw.trans hb, S, h.r.btw hb (.inr (by omega)), h.x.btw hb (.inr (by omega)), ?_, h.lt, h.dl⟩
  obtain ⟨ram, h1, h2, h3⟩ := h.O
  exact ⟨ram, h1, h2, (h3.btw hb (.inr (by omega))).wide (Nat.le_refl _) hb.size⟩
theorem MC.drew (h : MC w b A n c zs K D b0 c0 c1 A1 A2 c2 C3 c3 io zz gg W) : MC w b A n c zs K D b0 c0 c1 A1 A2 c2 C3 c3 io zz gg W.drew := by
  obtain ⟨ram, h1, h2, h3⟩ := h.O
  exact ⟨h.btw.drew, h.s.drew, h.r, h.x, ⟨ram, h1, h2, h3.below (Below.refl _ _).drew⟩, h.lt, h.dl⟩
theorem all_setC {l : List Int} {p : Int → Bool} (h : l.all p = true) (k : Nat) (x : Int) (hx : p x = true) : (l.set k x).all p = true := by
  rw [List.all_eq_true] at h ⊢
  intro y hy
  rcases List.mem_or_eq_of_mem_set hy with q | rfl
  · exact h y q
  · exact hx
theorem MC.ram (h : MC w b A n c zs K D b0 c0 c1 A1 A2 c2 C3 c3 io zz gg W) (v u : Nat) (hv : v < 256) (hu : u < 256) : MC w b A n c zs K D b0 c0 c1 A1 A2 c2 C3 c3 io zz gg (W.setCell ⟨b0, v, none⟩ (.int .i64 (u : Int))) := by
  obtain ⟨ram, l0, a0, O⟩ := h.O
  obtain ⟨⟨_, _, e, O0⟩, _, _⟩ := O.uncons
  injection e with e _ _
  subst e
  obtain ⟨b', m, f, e, hc, hf, h1, h2, hr, hput⟩ := O0.put v (by omega)
  have eb : b0 = b' := by injection e with e; injection e
  subst eb
  have hb : Btw b0 (b0 + 1) W (W.setCell ⟨b0, v, none⟩ (.int .i64 (u : Int))) := (Btw.refl _ _ _).setCell (p := ⟨b0, v, none⟩) (Nat.le_refl _) (Nat.lt_succ_self _) _
  have q : Below w.heap.size W (W.setCell ⟨b0, v, none⟩ (.int .i64 (u : Int))) := (Below.refl _ _).setCell (p := ⟨b0, v, none⟩) h1 _
  have k0 : OwnA (W.setCell ⟨b0, v, none⟩ (.int .i64 (u : Int))) w.heap.size W.heap.size [.slice (some ⟨b0, 0, none⟩) 256 c0] [.I (ram.set v (u : Int))] := OwnA.one ⟨some ⟨b0, 0, none⟩, c0, by rw [List.length_set, l0], hput u⟩
  have O2 := OwnA.reseg (a := []) (m := [.slice (some ⟨b0, 0, none⟩) 256 c0]) (b := [.slice A1 32 c1, .slice A2 256 c2, .slice C3 16 c3]) (da := []) (dm := [.I ram]) (dm' := [.I (ram.set v (u : Int))]) (db := [.I io, .I zz, .B gg]) O rfl rfl k0 (touch_blk (by decide) hb)
  exact ⟨btw_below h.btw q (Nat.le_refl _), h.s.below q h.lt, h.r.other hr (by decide) _ _, h.x.other hr (by decide) _ _, ⟨_, by rw [List.length_set]; exact l0, all_setC a0 v _ (by unfold byB; simp; omega), O2.wide (Nat.le_refl _) (by simp [World.setCell])⟩, h.lt, h.dl⟩
theorem MC.cR (h : MC w b A n c zs K D b0 c0 c1 A1 A2 c2 C3 c3 io zz gg W) (v : Nat) (hv : v < 256) : (∃ y, W.cell? ⟨b0, v, none⟩ = some y) ∧ W.frozen? ⟨b0, v, none⟩ = false := by
  obtain ⟨ram, l0, a0, O⟩ := h.O
  obtain ⟨⟨_, _, e, O0⟩, _, _⟩ := O.uncons
  injection e with e _ _
  subst e
  obtain ⟨b', m, f, e, hc, hf, _⟩ := O0.put v (by omega)
  have eb : b0 = b' := by injection e with e; injection e
  subst eb
  exact ⟨⟨_, hc⟩, hf⟩
end
theorem progZ_bytes {ps : List Int} (h : ∀ z ∈ ps, 0 ≤ z ∧ z ≤ 255) : ∀ z ∈ progZ ps ps.length, 0 ≤ z ∧ z ≤ 255 := fun z hz => by
  unfold progZ at hz
  obtain ⟨i, _, rfl⟩ := List.mem_map.1 hz
  split
  · rename_i hi
    rw [List.getD_eq_getElem?_getD, List.getElem?_eq_getElem hi]
    exact h _ (List.getElem_mem _)
  · omega
theorem okCoded {ram ps : List Int} (l0 : ram.length = 256) (a0 : ram.all byB = true) (h : ∀ z ∈ ps, 0 ≤ z ∧ z ≤ 255) : okMem ram zI (progZ ps ps.length) zG 0 = true := by
  refine okMem_mk l0 (by simp [zI]) a0 (by unfold zI; rw [List.all_replicate]; rfl) ?_
  exact okFlash_mk (progZ_len _ _) (by simp [zG]) (by omega) (progZ_bytes h)
/-- A drawn memory with a program: valid, of its own. -/
def GivesCoded (w : World) (R : World → Prop) (e : Ending) (w' : World) : Prop :=
  ∃ r i zs gs A0 A1 A2 A3 c0 c1 c2 c3, Hid (okMem r i zs gs 0 = true) ∧ e = .returned (.agg #[.slice A0 256 c0, .slice A1 32 c1, .slice A2 256 c2, .slice A3 16 c3, .int .i64 0]) ∧ Hid (OwnA w' w.heap.size w'.heap.size [.slice A0 256 c0, .slice A1 32 c1, .slice A2 256 c2, .slice A3 16 c3] [.I r, .I i, .I zs, .B gs]) ∧ Hid (R w')

set_option maxRecDepth 100000 in
set_option maxHeartbeats 16000000 in
theorem srcCoded (b : Nat) (A : Option Addr) (n c : Nat) (zs : List Nat) (K : Nat) (w : World) (hn : n ≤ maxLen) (hK : K ≤ 100) (h : Src w b A n c zs K) :
    Calls Try.prog 39 #[.pointer (some ⟨b, 0, none⟩)] w (GivesCoded w (fun w' => Src w' b A n c zs (K + 300) ∧ Btw b (b + 1) w w')) := by
  have hlt : b < w.heap.size := h.lt
  obtain ⟨W0, hW0⟩ : ∃ W0, W0 = w.alloc (.cells #[.slice none 0 0, .slice none 0 0, .slice none 0 0, .slice none 0 0, .int .i64 0] 28) := ⟨_, rfl⟩
  have hb0 : Below w.heap.size w W0 := by rw [hW0]; exact alloc_below _ _
  have Y0 : Hid (Box W0 w.heap.size 28 #[.slice none 0 0, .slice none 0 0, .slice none 0 0, .slice none 0 0, .int .i64 0]) := Lib.hid (by rw [hW0]; exact Box.new _ _ _)
  have HP := Lib.hid (srcProgram b A n c zs K W0 hn (by omega) (h.below hb0 hlt))
  have HNx := Lib.hid (fun N K W (h1 : 2 ≤ N) (h2 : N ≤ 256) (h3 : K ≤ 10000) (h : Src W b A n c zs K) => srcNext N b A n c zs K W h1 h2 (by omega) h)
  have HW0 := Lib.hid hW0
  have hs0 : W0.heap.size = w.heap.size + 1 := by rw [hW0]; simp
  clear h hW0 hn
  go_enter Try.func39, Try.ntmps39
  go_wp2_with fail
  rw [← HW0.out]
  refine HP.out.mono ?_
  rintro e w1 ⟨ps, Ap, cp, hps, rfl, OP, HR1⟩
  have hb1 := HR1.out.2
  have HN := Lib.hid (l05New Ap ps.length cp ps w1 rfl hps.out.1 OP.out.reads)
  have S1 := Lib.hid HR1.out.1
  have Y1 := Lib.hid (Y0.out.btw hb1 (.inr (by omega)))
  have HB1 : Hid (Btw b (b + 1) w w1) := Lib.hid ((Btw.of_below hb0 b (b + 1)).trans hb1)
  have hsz1 : w.heap.size + 1 ≤ w1.heap.size := by have := hb1.size; omega
  clear HP OP HR1 Y0 hb0 hb1 HW0
  go_wp2_with fail
  refine HN.out.mono ?_
  rintro e w2 ⟨B0, B1, B2, B3, c0, c1, c2, c3, rfl, HA, hb2⟩
  obtain ⟨⟨⟨_, _, e0, O0⟩, -⟩, -⟩ := HA.out
  injection e0 with e0 z1 z2
  subst e0
  clear z1 z2
  obtain ⟨b0, rfl, -⟩ := ownI_blk O0 (by rw [zR_len]; omega)
  obtain ⟨D, hD⟩ : ∃ D, D = w2.heap.size := ⟨_, rfl⟩
  obtain ⟨W3, hW3⟩ : ∃ W3, W3 = w2.alloc (.cells #[.slice (some ⟨b0, 0, none⟩) 256 c0, .slice B1 32 c1, .slice B2 256 c2, .slice B3 16 c3, .int .i64 0] 28) := ⟨_, rfl⟩
  have hb3 : Below w2.heap.size w2 W3 := by rw [hW3]; exact alloc_below _ _
  have HM3 : Hid (MC w b A n c zs (K + 200) D b0 c0 c1 B1 B2 c2 B3 c3 zI (progZ ps ps.length) zG W3) := Lib.hid ⟨btw_below (btw_below HB1.out hb2 (by omega)) hb3 (by have := hb2.size; omega), (S1.out.below hb2 (by omega)).below hb3 (by have := hb2.size; omega), (Y1.out.step hb2).step hb3, by rw [hW3, hD]; exact Box.new _ _ _, ⟨zR, zR_len, by unfold zR; rw [List.all_replicate]; rfl, (HA.out.below hb3).wide (by omega) hb3.size⟩, hlt, by have := hb2.size; omega⟩
  have HW3 := Lib.hid hW3
  have HBy := Lib.hid hps.out.2
  clear HN HA O0 hW3 hb2 hb3 Y1 S1 HB1 hps
  go_wp2
  rw [← HW3.out, ← hD]
  clear HW3 hD
  go_loopw [4] (fun q wr => ∃ j : Nat, j ≤ 12 ∧ q = .int .i64 j ∧ Hid (MC w b A n c zs (K + 200 + 2 * j) D b0 c0 c1 B1 B2 c2 B3 c3 zI (progZ ps ps.length) zG wr)) (fun q _ => 12 - (intOf q).toNat)
  case atStart => exact ⟨0, by omega, rfl, HM3⟩
  case round =>
    clear HM3
    obtain ⟨j, hj, rfl, M⟩ := hrel
    have HN256 : Hid (∀ K W, K ≤ 10000 → Hid (MC w b A n c zs K D b0 c0 c1 B1 B2 c2 B3 c3 zI (progZ ps ps.length) zG W) → Calls Try.prog 68 #[.pointer (some ⟨b, 0, none⟩), .int .i64 256] W fun e w' => ∃ v : Nat, e = .returned (.int .i64 v) ∧ v < 256 ∧ Hid (MC w b A n c zs (K + 1) D b0 c0 c1 B1 B2 c2 B3 c3 zI (progZ ps ps.length) zG w')) := Lib.hid (fun K W h3 hM => by
      refine (HNx.out 256 K W (by omega) (by omega) h3 hM.out.s).mono ?_
      rintro e w' ⟨v, rfl, hv, S, hb⟩
      exact ⟨v, rfl, hv, Lib.hid (hM.out.next S.out hb)⟩)
    by_cases hlt' : j < 12
    · have hi : (j : Int) < 12 := by omega
      have M0 := Lib.hid M.out.drew
      clear M
      go_wp2
      go_region_held3 (fun W' => W'.cell? ⟨D, 0, none⟩ = some (.slice (some ⟨b0, 0, none⟩) 256 c0))
        (first | exact (M2.out.ram v u hv hu).x.cell 0 rfl | exact M2.out.x.cell 0 rfl | exact M1.out.x.cell 0 rfl | exact M0.out.x.cell 0 rfl)
        (first
          | (go_at_call 68; refine (HN256.out _ _ (by omega) M1).mono ?_; rintro e w7 ⟨u, rfl, hu, M2⟩; obtain ⟨⟨y, hy⟩, hyz⟩ := M2.out.cR v hv)
          | (go_at_call 68; refine (HN256.out _ _ (by omega) M0).mono ?_; rintro e w6 ⟨v, rfl, hv, M1⟩; have hvi : (v : Int) < 256 := by omega))
      all_goals (
        have M3 := Lib.hid (M2.out.ram v u hv hu)
        clear hy hyz M0 M1
        go_wp2
        go_roundw
        case rel => exact ⟨j + 1, by omega, by go_num, Lib.hid (M3.out.mono (by omega))⟩
        case measure => simp [intOf]; omega)
    · obtain rfl : j = 12 := by omega
      have hx0 := M.out.x.cell 0 rfl
      have hx1 := M.out.x.cell 1 rfl
      have hx2 := M.out.x.cell 2 rfl
      have hx3 := M.out.x.cell 3 rfl
      have hx4 := M.out.x.cell 4 rfl
      have r0 := M.out.r.cell 0 rfl
      have r1 := M.out.r.cell 1 rfl
      have r2 := M.out.r.cell 2 rfl
      have r3 := M.out.r.cell 3 rfl
      have r4 := M.out.r.cell 4 rfl
      have z0 := M.out.r.frozen 0
      have z1 := M.out.r.frozen 1
      have z2 := M.out.r.frozen 2
      have z3 := M.out.r.frozen 3
      have z4 := M.out.r.frozen 4
      go_wp2
      refine bodyPost_ret (v := .agg #[.slice (some ⟨b0, 0, none⟩) 256 c0, .slice B1 32 c1, .slice B2 256 c2, .slice B3 16 c3, .int .i64 0]) (by simp [results, Try.results39, go_sem, r0, r1, r2, r3, r4]) rfl ?_
      obtain ⟨ram, l0, a0, O⟩ := M.out.O
      have hbw : Btw w.heap.size (w.heap.size + 1) wr (((((wr.setCell ⟨w.heap.size, 0, none⟩ (.slice (some ⟨b0, 0, none⟩) 256 c0)).setCell ⟨w.heap.size, 1, none⟩ (.slice B1 32 c1)).setCell ⟨w.heap.size, 2, none⟩ (.slice B2 256 c2)).setCell ⟨w.heap.size, 3, none⟩ (.slice B3 16 c3)).setCell ⟨w.heap.size, 4, none⟩ (.int .i64 0)) := (((((Btw.refl _ _ _).setCell (p := ⟨w.heap.size, 0, none⟩) (Nat.le_refl _) (Nat.lt_succ_self _) _).setCell (p := ⟨w.heap.size, 1, none⟩) (Nat.le_refl _) (Nat.lt_succ_self _) _).setCell (p := ⟨w.heap.size, 2, none⟩) (Nat.le_refl _) (Nat.lt_succ_self _) _).setCell (p := ⟨w.heap.size, 3, none⟩) (Nat.le_refl _) (Nat.lt_succ_self _) _).setCell (p := ⟨w.heap.size, 4, none⟩) (Nat.le_refl _) (Nat.lt_succ_self _) _
      have hq : Below w.heap.size wr (((((wr.setCell ⟨w.heap.size, 0, none⟩ (.slice (some ⟨b0, 0, none⟩) 256 c0)).setCell ⟨w.heap.size, 1, none⟩ (.slice B1 32 c1)).setCell ⟨w.heap.size, 2, none⟩ (.slice B2 256 c2)).setCell ⟨w.heap.size, 3, none⟩ (.slice B3 16 c3)).setCell ⟨w.heap.size, 4, none⟩ (.int .i64 0)) := hbw.below (Nat.le_of_lt M.out.r.lt)
      exact ⟨ram, zI, progZ ps ps.length, zG, _, _, _, _, _, _, _, _, Lib.hid (okCoded l0 a0 HBy.out), rfl, Lib.hid (O.far5 M.out.r _ _ _ _ _ |>.wide (Nat.le_refl _) hbw.size), Lib.hid ⟨(M.out.s.below hq hlt).mono (by omega), btw_below M.out.btw hq (Nat.le_refl _)⟩⟩
set_option maxRecDepth 100000 in
theorem codedMem (A : Option Addr) (n c : Nat) (zs : List Nat) (w : World) (hn : n ≤ maxLen) (hl : zs.length = n) (h : ByB w w.heap.size A zs) :
    Calls Try.prog 10 #[.slice A n c] w (GivesCoded w (fun w' => Below w.heap.size w w')) := by
  obtain ⟨W0, hW0⟩ : ∃ W0, W0 = w.alloc (.cells #[.slice none 0 0, .slice none 0 0, .slice none 0 0, .slice none 0 0, .int .i64 0] 28) := ⟨_, rfl⟩
  have hb0 : Below w.heap.size w W0 := by rw [hW0]; exact alloc_below _ _
  have HY0 : Hid (Box W0 w.heap.size 28 #[.slice none 0 0, .slice none 0 0, .slice none 0 0, .slice none 0 0, .int .i64 0]) := Lib.hid (by rw [hW0]; exact Box.new _ _ _)
  have HC := Lib.hid (srcNew A n c zs W0 hn hl (h.step hb0))
  have HF := Lib.hid (fun W (h : Src W W0.heap.size A n c zs 0) => srcCoded W0.heap.size A n c zs 0 W hn (by omega) h)
  have HW0 := Lib.hid hW0
  clear hn hl h hW0
  go_enter Try.func10, Try.ntmps10
  go_wp2_with fail
  rw [← HW0.out]
  refine HC.out.mono ?_
  rintro e w1 ⟨rfl, S1, hb1⟩
  have HY1 := Lib.hid (HY0.out.step hb1)
  have hsz : w.heap.size + 1 ≤ W0.heap.size := HY0.out.lt
  go_wp2_with fail
  refine (HF.out w1 S1.out).mono ?_
  rintro e w2 ⟨r, i, zr, gr, D0, D1, D2, D3, g0, g1, g2, g3, HO, rfl, HA, B2⟩
  have Y2 := Lib.hid (HY1.out.btw B2.out.2 (.inl (by omega)))
  have HB2 := Lib.hid ((hb0.trans (hb1.mono (by omega))).trans ((B2.out.2.below (hb1.size)).mono (by omega)))
  have hsz1 : W0.heap.size ≤ w1.heap.size := hb1.size
  have t0 := Y2.out.cell 0 rfl
  have t1 := Y2.out.cell 1 rfl
  have t2 := Y2.out.cell 2 rfl
  have t3 := Y2.out.cell 3 rfl
  have t4 := Y2.out.cell 4 rfl
  have t0z := Y2.out.frozen 0
  have t1z := Y2.out.frozen 1
  have t2z := Y2.out.frozen 2
  have t3z := Y2.out.frozen 3
  have t4z := Y2.out.frozen 4
  clear HC HY0 HY1 S1 B2
  go_wp2
  refine bodyPost_ret (v := .agg #[.slice D0 256 g0, .slice D1 32 g1, .slice D2 256 g2, .slice D3 16 g3, .int .i64 0]) (by simp [results, Try.results10, go_sem, t0, t1, t2, t3, t4]) rfl ?_
  exact ⟨r, i, zr, gr, D0, D1, D2, D3, g0, g1, g2, g3, HO, rfl, Lib.hid ((HA.out.far5 Y2.out _ _ _ _ _).wide (by omega) (by rw [size5]; exact Nat.le_refl _)), Lib.hid (below5 HB2.out (Nat.le_refl _) _ _ _ _ _)⟩
end Go.Proofs.Ytagdclbpgkilgaa

/- The law FnDma, walked. -/
namespace Go.Proofs.Ytagdclbpgkilgaa
open Go.RowKit

/-- A variable that holds a valid memory. -/
structure DM (D : Nat) (B0 B1 B2 B3 : Option Addr) (e0 e1 e2 e3 : Nat) (m : MD) (W : World) : Prop where
  x : Box W D 28 #[.slice B0 256 e0, .slice B1 32 e1, .slice B2 256 e2, .slice B3 16 e3, .int .i64 m.s]
  q : RepM W B0 B1 B2 B3 m
section
variable {D : Nat} {B0 B1 B2 B3 : Option Addr} {e0 e1 e2 e3 : Nat} {m : MD} {W W' : World}
theorem DM.step (h : DM D B0 B1 B2 B3 e0 e1 e2 e3 m W) (hb : Below W.heap.size W W') : DM D B0 B1 B2 B3 e0 e1 e2 e3 m W' := ⟨h.x.step hb, h.q.below hb⟩
theorem DM.drewN (h : DM D B0 B1 B2 B3 e0 e1 e2 e3 m W) (k : Nat) : DM D B0 B1 B2 B3 e0 e1 e2 e3 m (W.drewN k) := h.step (below_drewN (Below.refl _ _) k)
theorem DM.new (h : RepM W B0 B1 B2 B3 m) : DM W.heap.size B0 B1 B2 B3 e0 e1 e2 e3 m (W.alloc (.cells #[.slice B0 256 e0, .slice B1 32 e1, .slice B2 256 e2, .slice B3 16 e3, .int .i64 m.s] 28)) := ⟨Box.new _ _ _, h.below (alloc_below _ _)⟩
theorem DM.mv (h : DM D B0 B1 B2 B3 e0 e1 e2 e3 m W) : MV D B0 B1 B2 B3 e0 e1 e2 e3 m.r m.i m.z m.g m.s W := ⟨h.x, h.q.2.1, h.q.2.2.1, h.q.2.2.2.1, h.q.2.2.2.2⟩
theorem repOf {lo hi : Nat} (hok : m.Ok) (h : OwnA W lo hi [.slice B0 256 e0, .slice B1 32 e1, .slice B2 256 e2, .slice B3 16 e3] [.I m.r, .I m.i, .I m.z, .B m.g]) : RepM W B0 B1 B2 B3 m := by
  obtain ⟨r0, r1, r2, r3, -⟩ := h.reads
  rw [← hok.r] at r0
  rw [← hok.i] at r1
  rw [← hok.z] at r2
  rw [← hok.g] at r3
  exact ⟨hok, repI (by simpa using r0), repI r1, repI (by simpa using r2), repB r3⟩
end
set_option maxRecDepth 100000 in
set_option maxHeartbeats 16000000 in
theorem walkDma (A : Option Addr) (n c : Nat) (zs : List Nat) (A' : Option Addr) (n' c' : Nat) (zs' : List Nat) (w : World) (hl : zs.length = n) (hl' : zs'.length = n') (hn : n ≤ maxLen) (hn' : n' ≤ maxLen) (h : ByB w w.heap.size A zs) (h' : ByB w w.heap.size A' zs') :
    Calls Try.prog 3 #[.slice A n c, .slice A' n' c'] w fun e w' => e = .returned (.bool true) ∧ Below w.heap.size w w' := by
  unfold maxLen at hn hn'
  by_cases hle : n ≤ 1048576
  · by_cases hle' : n' ≤ 1048576
    · have i1 : ¬ (1048576 : Int) < (n : Int) := by omega
      have i2 : ¬ (1048576 : Int) < (n' : Int) := by omega
      have HD := Lib.hid (codedMem A n c zs w (by unfold maxLen; omega) hl h)
      have HCo := Lib.hid (fun W (hb : Below w.heap.size w W) => channelsOf A' n' c' zs' W (by unfold maxLen; omega) hl' (h'.step hb))
      have HAj : Hid (∀ W, Below w.heap.size w W → Calls Try.prog 11 #[.slice A n c, .int .i64 0, .int .i64 4] W fun e w' => e = .returned (.int .i64 (atOf zs 0 4 : Nat)) ∧ Below W.heap.size W w') := Lib.hid (fun W hb => lawAtE 0 4 A n c zs W (by omega) (by omega) (by omega) hle hl (h.step hb))
      have HA0 : Hid (∀ W, Below w.heap.size w W → Calls Try.prog 11 #[.slice A' n' c', .int .i64 0, .int .i64 20] W fun e w' => e = .returned (.int .i64 (atOf zs' 0 20 : Nat)) ∧ Below W.heap.size W w') := Lib.hid (fun W hb => lawAtE 0 20 A' n' c' zs' W (by omega) (by omega) (by omega) hle' hl' (h'.step hb))
      have HA1 : Hid (∀ W, Below w.heap.size w W → Calls Try.prog 11 #[.slice A' n' c', .int .i64 1, .int .i64 100] W fun e w' => e = .returned (.int .i64 (atOf zs' 1 100 : Nat)) ∧ Below W.heap.size W w') := Lib.hid (fun W hb => lawAtE 1 100 A' n' c' zs' W (by omega) (by omega) (by omega) hle' hl' (h'.step hb))
      have HA2 : Hid (∀ W, Below w.heap.size w W → Calls Try.prog 11 #[.slice A' n' c', .int .i64 2, .int .i64 100] W fun e w' => e = .returned (.int .i64 (atOf zs' 2 100 : Nat)) ∧ Below W.heap.size W w') := Lib.hid (fun W hb => lawAtE 2 100 A' n' c' zs' W (by omega) (by omega) (by omega) hle' hl' (h'.step hb))
      have hjj := atOf_lt zs 0 4 (by omega)
      have hN := atOf_lt zs' 0 20 (by omega)
      have hF := atOf_lt zs' 1 100 (by omega)
      have hT := atOf_lt zs' 2 100 (by omega)
      generalize atOf zs 0 4 = jj at HAj hjj
      generalize atOf zs' 0 20 = N at HA0 hN
      generalize atOf zs' 1 100 = F at HA1 hF
      generalize atOf zs' 2 100 = T at HA2 hT
      clear hl hl' hn hn' h h'
      go_enter Try.func3, Try.ntmps3
      go_wp2_with fail
      unfold GivesCoded at HD
      refine HD.out.mono ?_
      rintro e w1 ⟨r, i, z, g, B0, B1, B2, B3, e0, e1, e2, e3, HO, rfl, HM, HB1⟩
      obtain ⟨m, hm⟩ : ∃ m : MD, m = ⟨r, i, z, g, 0⟩ := ⟨_, rfl⟩
      have HOk : Hid m.Ok := Lib.hid (MD.ok_iff.1 (by rw [hm]; exact HO.out))
      have HR1 : Hid (RepM w1 B0 B1 B2 B3 m) := Lib.hid (repOf HOk.out (by rw [hm]; exact HM.out))
      obtain ⟨s, hs⟩ : ∃ s, s = m.s := ⟨_, rfl⟩
      have hs0 : s = 0 := by rw [hs, hm]
      obtain ⟨w2, hw2⟩ : ∃ w2, w2 = w1.alloc (.cells #[.slice B0 256 e0, .slice B1 32 e1, .slice B2 256 e2, .slice B3 16 e3, .int .i64 0] 28) := ⟨_, rfl⟩
      have M2 : Hid (DM w1.heap.size B0 B1 B2 B3 e0 e1 e2 e3 m w2) := Lib.hid (by rw [hw2, ← hs0, hs]; exact DM.new HR1.out)
      have hb2 : Below w.heap.size w w2 := by rw [hw2]; exact bt HB1.out (alloc_below _ _)
      obtain ⟨D1, hD1⟩ : ∃ D1, D1 = w1.heap.size := ⟨_, rfl⟩
      rw [← hD1] at M2
      have HS := Lib.hid (hs.symm.trans hs0)
      have HW2 := Lib.hid hw2
      clear hw2 HM HB1 HD HO HR1 hm hs hs0 r i z g s
      go_wp2_with fail
      rw [← HW2.out]
      refine (HA0.out w2 hb2).mono ?_
      rintro e w3 ⟨rfl, k3⟩
      have hb3 := bt hb2 k3
      go_wp2_with fail
      refine (HA1.out w3 hb3).mono ?_
      rintro e w4 ⟨rfl, k4⟩
      have hb4 := bt hb3 k4
      go_wp2_with fail
      refine (HA2.out w4 hb4).mono ?_
      rintro e w5 ⟨rfl, k5⟩
      have hb5 := bt hb4 k5
      have M5 := Lib.hid (((M2.out.step k3).step k4).step k5)
      clear M2 k3 k4 k5 hb2 hb3 hb4 HA0 HA1 HA2 HW2
      go_wp2_with fail
      obtain ⟨nn, hnn⟩ : ∃ nn : Nat, nn = 1 + N := ⟨_, rfl⟩
      obtain ⟨tt, htt⟩ : ∃ tt : Nat, tt = 120 + T := ⟨_, rfl⟩
      have z1 : (1 : Int) + (N : Int) = (nn : Int) := by omega
      have z2 : (120 : Int) + (T : Int) = (tt : Int) := by omega
      have hf1 : F + nn ≤ tt := by omega
      have hf2 : tt + nn ≤ 256 := by omega
      have hf3 : nn ≤ 255 := by omega
      have HSet := Lib.hid (fun (Q0 : Option Addr) (q0 : Nat) W (h : RowChannel W Q0 newRs) => setI9 (A := Q0) (c := q0) (f := F) (t := tt) (n := nn) (W := W) (by omega) (by omega) (by omega) h)
      rw [z1, z2]
      clear z1 z2 hnn htt hN hF hT
      refine newI9.mono ?_
      rintro e w6 ⟨Q0, q0, rfl, HQ, k6⟩
      have hb6 := bt hb5 k6
      have M6 := Lib.hid (M5.out.step k6)
      clear M5 k6 hb5
      go_wp2_with fail
      refine (HSet.out Q0 q0 _ HQ.out).mono ?_
      rintro e w7 ⟨Q1, q1, rfl, HQ7, k7⟩
      have hb7 := bt hb6 k7
      have M7 := Lib.hid (M6.out.step k7)
      have m0 := M7.out.x.cell 0 rfl
      have m1 := M7.out.x.cell 1 rfl
      have m2 := M7.out.x.cell 2 rfl
      have m3 := M7.out.x.cell 3 rfl
      have m4' := M7.out.x.cell 4 rfl
      rw [hD1] at m0 m1 m2 m3 m4'
      rw [HS.out] at m4'
      clear HSet M6 k7 HQ hb6
      obtain ⟨w8, hw8⟩ : ∃ w8, w8 = w7.alloc (.cells #[.slice B0 256 e0, .slice B1 32 e1, .slice B2 256 e2, .slice B3 16 e3, .int .i64 0] 28) := ⟨_, rfl⟩
      have k8 : Below w7.heap.size w7 w8 := by rw [hw8]; exact alloc_below _ _
      have M8 := Lib.hid (M7.out.step k8)
      have hb8 := bt hb7 k8
      have R8 := Lib.hid (HQ7.out.below k8)
      have X8 : Hid (DM w7.heap.size B0 B1 B2 B3 e0 e1 e2 e3 (memN m F tt nn 0) w8) := Lib.hid (by rw [start_mem, hw8, ← HS.out]; exact DM.new M7.out.q)
      have hD : Hid (D1 < w7.heap.size ∧ w.heap.size ≤ w7.heap.size) := Lib.hid ⟨M7.out.x.lt, hb7.size⟩
      obtain ⟨D2, hD2⟩ : ∃ D2, D2 = w7.heap.size := ⟨_, rfl⟩
      have HW8 := Lib.hid hw8
      clear k8 M7 HQ7 hb7 hw8
      go_wp2
      rw [← HW8.out, ← hD1, ← hD2]
      rw [← hD2] at X8 hD
      clear m0 m1 m2 m3 m4' HW8 hD1 hD2
      go_loopw [9, 12] (fun cs i wr => ∃ (k : Nat) (C0 C1 C2 C3 Q : Option Addr) (f0 f1 f2 f3 q : Nat), k ≤ nn + 2 ∧ cs = .slice Q 4 q ∧ i = .int .i64 k ∧ Below w.heap.size w wr ∧ Hid (DM D1 B0 B1 B2 B3 e0 e1 e2 e3 m wr) ∧ Hid (DM D2 C0 C1 C2 C3 f0 f1 f2 f3 (memN m F tt nn k) wr) ∧ Hid (RowF wr Q (fourN (chanN F tt nn k)))) (fun _ i _ => nn + 2 - (intOf i).toNat)
      case atStart => exact ⟨0, B0, B1, B2, B3, Q1, e0, e1, e2, e3, q1, by omega, rfl, rfl, hb8, M8, X8, R8⟩
      case round =>
        clear hb8 M8 X8 R8
        obtain ⟨k, C0, C1, C2, C3, Q, f0, f1, f2, f3, q, hk, rfl, rfl, hbw, MW, XW, RW⟩ := hrel
        have x0 := XW.out.x.cell 0 rfl
        have x1 := XW.out.x.cell 1 rfl
        have x2 := XW.out.x.cell 2 rfl
        have x3 := XW.out.x.cell 3 rfl
        have x4 := XW.out.x.cell 4 rfl
        rw [show (memN m F tt nn k).s = 0 from HS.out] at x4
        by_cases hlt : k < nn + 2
        · have hki : (k : Int) < (nn : Int) + 2 := by omega
          have HRd := Lib.hid (roundI (W := wr) (c := q) (e0 := f0) (e1 := f1) (e2 := f2) (e3 := f3) HOk.out hf1 hf2 hf3 k XW.out.q RW.out)
          rw [HS.out] at HRd
          unfold GivesMvd at HRd
          rw [show (memN m F tt nn (k + 1)).s = 0 from HS.out] at HRd
          obtain ⟨lst, hlst⟩ : ∃ b, decide ((k : Int) = (nn : Int) - 1) = b := ⟨_, rfl⟩
          rw [hlst] at HRd
          go_wp2_with fail
          refine HRd.out.mono ?_
          rintro e w9 ⟨G0, G1, G2, G3, Q2, g0, g1, g2, g3, q2, rfl, HG, HR, k9⟩
          have k10 := bt k9 (alloc_below w9 (.cells #[.slice G0 256 g0, .slice G1 32 g1, .slice G2 256 g2, .slice G3 16 g3, .int .i64 0] 28))
          have MX := Lib.hid (MW.out.step k10)
          have XX := Lib.hid (XW.out.x.step k10)
          have hbx := Lib.hid (bt hbw k10)
          have y0 := XX.out.cell 0 rfl
          have y1 := XX.out.cell 1 rfl
          have y2 := XX.out.cell 2 rfl
          have y3 := XX.out.cell 3 rfl
          have y4 := XX.out.cell 4 rfl
          have z0 := XX.out.frozen 0
          have z1 := XX.out.frozen 1
          have z2 := XX.out.frozen 2
          have z3 := XX.out.frozen 3
          have z4 := XX.out.frozen 4
          clear MW XW RW HRd x0 x1 x2 x3 x4
          have hne : (!lst == ((k : Int) == (nn : Int) - 1)) = false := by rw [← hlst]; by_cases q : (k : Int) = (nn : Int) - 1 <;> simp [q]
          go_wp2
          go_roundw
          case rel =>
            have K10 := alloc_below w9 (.cells #[.slice G0 256 g0, .slice G1 32 g1, .slice G2 256 g2, .slice G3 16 g3, .int .i64 0] 28)
            have HG' := HG.out.below K10
            have HR' := HR.out.below K10
            generalize w9.alloc (.cells #[.slice G0 256 g0, .slice G1 32 g1, .slice G2 256 g2, .slice G3 16 g3, .int .i64 0] 28) = w10 at MX XX hbx HG' HR' ⊢
            have hB : Btw D2 (D2 + 1) w10 (((((w10.setCell ⟨D2, 0, none⟩ (.slice G0 256 g0)).setCell ⟨D2, 1, none⟩ (.slice G1 32 g1)).setCell ⟨D2, 2, none⟩ (.slice G2 256 g2)).setCell ⟨D2, 3, none⟩ (.slice G3 16 g3)).setCell ⟨D2, 4, none⟩ (.int .i64 0)) := (((((Btw.refl _ _ _).setCell (p := ⟨D2, 0, none⟩) (Nat.le_refl _) (Nat.lt_succ_self _) _).setCell (p := ⟨D2, 1, none⟩) (Nat.le_refl _) (Nat.lt_succ_self _) _).setCell (p := ⟨D2, 2, none⟩) (Nat.le_refl _) (Nat.lt_succ_self _) _).setCell (p := ⟨D2, 3, none⟩) (Nat.le_refl _) (Nat.lt_succ_self _) _).setCell (p := ⟨D2, 4, none⟩) (Nat.le_refl _) (Nat.lt_succ_self _) _
            have hX := XX.out.allN5 rfl (.slice G0 256 g0) (.slice G1 32 g1) (.slice G2 256 g2) (.slice G3 16 g3) (.int .i64 0)
            have hs : (memN m F tt nn (k + 1)).s = 0 := HS.out
            refine ⟨k + 1, G0, G1, G2, G3, Q2, g0, g1, g2, g3, q2, by omega, rfl, by go_num, below5 hbx.out hD.out.2 _ _ _ _ _, Lib.hid ⟨MX.out.x.btw hB (.inl hD.out.1), MX.out.q.off XX.out (by simp) hB⟩, Lib.hid ⟨by rw [hs]; exact hX, HG'.off XX.out (by simp) hB⟩, Lib.hid (HR'.off XX.out (by simp) hB)⟩
          case measure =>
            show nn + 2 - ((k : Int) + 1).toNat < nn + 2 - (k : Int).toNat
            omega
        · have hki : ¬ (k : Int) < (nn : Int) + 2 := by omega
          have hch : fourN (chanN F tt nn k) = [zChannel, zChannel, (((F + nn : Nat) : Int), ((tt + nn : Nat) : Int), 0, 1), zChannel] := by unfold fourN chanN; rw [Nat.min_eq_right (by omega : nn ≤ k), Nat.sub_self]; rfl
          have HDm : Hid (dmaB (fourN (chanN F tt nn k)) = true) := Lib.hid (fourN_ok (chanN_ok k (by omega) (by omega) hf3))
          obtain ⟨bq, oq, rfl, r0, r1, r2, r3⟩ := RW.out.2.at 2 (by rw [RW.out.1]; omega)
          rw [hch] at r2
          have HOk9 := Lib.hid (okI9 (c := q) HDm.out RW.out)
          clear hch r0 r1 r3
          go_wp2_with fail
          refine HOk9.out.mono ?_
          rintro e w9 ⟨rfl, k9⟩
          have hb9 := bt hbw k9
          have M9 := Lib.hid (MW.out.step k9)
          have X9 := Lib.hid (XW.out.step k9)
          have r9 := (k9.cell (cell_lt r2)).trans r2
          have x0 := X9.out.x.cell 0 rfl
          have hk3 : Hid (nn ≤ k) := Lib.hid (by omega)
          clear r2 MW XW RW HOk9 HDm k9 hbw x1 x2 x3 x4 hki hlt hk
          go_wp2
          go_loopw [17] (fun j wr => ∃ l : Nat, l ≤ nn ∧ j = .int .i64 l ∧ Below w.heap.size w wr ∧ Hid (DM D1 B0 B1 B2 B3 e0 e1 e2 e3 m wr) ∧ Hid (DM D2 C0 C1 C2 C3 f0 f1 f2 f3 (memN m F tt nn k) wr)) (fun j _ => nn - (intOf j).toNat)
          case atStart => exact ⟨0, by omega, rfl, hb9, M9, X9⟩
          case round =>
            clear hb9 M9 X9 x0 r9
            obtain ⟨l, hl, rfl, hbw, MW, XW⟩ := hrel
            by_cases hlt : l < nn
            · have hli : (l : Int) < (nn : Int) := by omega
              obtain ⟨bx, ox, rfl, hcx⟩ := XW.out.q.2.1 (tt + l) (by rw [XW.out.q.1.r]; omega)
              obtain ⟨bm, om, rfl, hcm⟩ := MW.out.q.2.1 (F + l) (by rw [HOk.out.r]; omega)
              rw [memN_at HOk.out hf1 hf2 hk3.out hlt] at hcx
              generalize m.r.getD (F + l) 0 = v at hcx hcm
              have x0 := XW.out.x.cell 0 rfl
              have y0 := MW.out.x.cell 0 rfl
              have t1 : (tt : Int) + (l : Int) < 256 := by omega
              have t2 : (F : Int) + (l : Int) < 256 := by omega
              go_wp2
              go_quiet (fail)
              go_wp2
              go_roundw
              case rel => first | exact ⟨l + 1, by omega, by go_num, below_drewN hbw _, Lib.hid (MW.out.drewN _), Lib.hid (XW.out.drewN _)⟩ | ((repeat apply Exists.intro); refine ⟨?_, rfl⟩; exact ⟨l + 1, by omega, by go_num, below_drewN hbw _, Lib.hid (MW.out.drewN _), Lib.hid (XW.out.drewN _)⟩)
              case measure => simp [intOf]; omega
            · have hli : ¬ (l : Int) < (nn : Int) := by omega
              unfold GivesDma at HCo
              clear XW hk3 hf1 hf2 hf3 hl hlt
              go_wp2_with fail
              refine (HCo.out wr hbw).mono ?_
              rintro e w10 ⟨rs, Q3, q3, rfl, HDs, HRs, k10⟩
              have hb10 := bt hbw k10.out
              have M10 := Lib.hid (MW.out.step k10.out)
              have R10 : Hid (RowF w10 Q3 rs) := Lib.hid ⟨(dmaB_len HDs.out).1, HRs.out.reads⟩
              clear MW HRs k10 hbw HCo hli
              go_wp2_with fail
              refine (HAj.out w10 hb10).mono ?_
              rintro e w11 ⟨rfl, k11⟩
              have hb11 := bt hb10 k11
              have M11 := Lib.hid (M10.out.step k11)
              have R11 := Lib.hid (R10.out.below k11)
              have y0 := M11.out.x.cell 0 rfl
              have y1 := M11.out.x.cell 1 rfl
              have y2 := M11.out.x.cell 2 rfl
              have y3 := M11.out.x.cell 3 rfl
              have y4 := M11.out.x.cell 4 rfl
              rw [HS.out] at y4
              have HMi := Lib.hid (moveI (c := q3) (e0 := e0) (e1 := e1) (e2 := e2) (e3 := e3) M11.out.q R11.out HDs.out jj hjj)
              rw [HS.out] at HMi
              have HMs := Lib.hid (fun W (a : DM D1 B0 B1 B2 B3 e0 e1 e2 e3 m W) (b : RowF W Q3 rs) => moveS (c := q3) (e0 := e0) (e1 := e1) (e2 := e2) (e3 := e3) a.q b HDs.out jj hjj)
              simp only [HS.out] at HMs
              generalize moveM m (rs.getD jj zChannel) = mI at HMi HMs
              generalize moveL (rs.getD jj zChannel) = lI at HMi HMs
              generalize rs.set jj (moveC (rs.getD jj zChannel)) = rI at HMi HMs
              unfold GivesMvd at HMi HMs
              clear M10 R10 k11 hb10 HAj
              go_wp2_with fail
              refine HMi.out.mono ?_
              rintro e w12 ⟨I0, I1, I2, I3, QI, j0, j1, j2, j3, qi, rfl, HI, HIr, k12⟩
              obtain ⟨w13, hw13⟩ : ∃ w13, w13 = w12.alloc (.cells #[.slice I0 256 j0, .slice I1 32 j1, .slice I2 256 j2, .slice I3 16 j3, .int .i64 mI.s] 28) := ⟨_, rfl⟩
              have k13 : Below w12.heap.size w12 w13 := by rw [hw13]; exact alloc_below _ _
              have XI : Hid (DM w12.heap.size I0 I1 I2 I3 j0 j1 j2 j3 mI w13) := Lib.hid (by rw [hw13]; exact DM.new HI.out)
              have RI := Lib.hid (HIr.out.below k13)
              have M13 := Lib.hid ((M11.out.step k12).step k13)
              have R13 := Lib.hid ((R11.out.below k12).below k13)
              have hb13 := bt (bt hb11 k12) k13
              obtain ⟨D3, hD3⟩ : ∃ D3, D3 = w12.heap.size := ⟨_, rfl⟩
              rw [← hD3] at XI
              have y0 := M13.out.x.cell 0 rfl
              have y1 := M13.out.x.cell 1 rfl
              have y2 := M13.out.x.cell 2 rfl
              have y3 := M13.out.x.cell 3 rfl
              have y4 := M13.out.x.cell 4 rfl
              rw [HS.out] at y4
              have HMj := Lib.hid (HMs.out w13 M13.out R13.out)
              rw [hw13] at y0 y1 y2 y3 y4
              have HW13 := Lib.hid hw13
              clear hw13 M11 R11 k12 k13 hb11 HMi HMs HI HIr
              go_wp2_with fail
              rw [← HW13.out, ← hD3]
              clear hD3 HW13
              refine HMj.out.mono ?_
              rintro e w14 ⟨J0, J1, J2, J3, QJ, l0, l1, l2, l3, qj, rfl, HJ, HJr, k14⟩
              obtain ⟨w15, hw15⟩ : ∃ w15, w15 = w14.alloc (.cells #[.slice J0 256 l0, .slice J1 32 l1, .slice J2 256 l2, .slice J3 16 l3, .int .i64 mI.s] 28) := ⟨_, rfl⟩
              have k15 : Below w14.heap.size w14 w15 := by rw [hw15]; exact alloc_below _ _
              have XJ : Hid (DM w14.heap.size J0 J1 J2 J3 l0 l1 l2 l3 mI w15) := Lib.hid (by rw [hw15]; exact DM.new HJ.out)
              have XI15 := Lib.hid ((XI.out.step k14).step k15)
              have RI15 := (RI.out.below k14).below k15
              have RJ15 := HJr.out.below k15
              have hb15 := Lib.hid (bt (bt hb13 k14) k15)
              obtain ⟨D4, hD4⟩ : ∃ D4, D4 = w14.heap.size := ⟨_, rfl⟩
              rw [← hD4] at XJ
              obtain ⟨bi, oi, rfl, a0, a1, a2, a3⟩ := RI15.2.at jj (by rw [RI15.1]; exact hjj)
              obtain ⟨bj, oj, rfl, c0, c1, c2, c3⟩ := RJ15.2.at jj (by rw [RJ15.1]; exact hjj)
              obtain ⟨⟨x1, x2, x3, x4⟩, hx⟩ : ∃ x, x = rI.getD jj zChannel := ⟨_, rfl⟩
              rw [← hx] at a0 a1 a2 a3 c0 c1 c2 c3
              have HK : Hid (∀ W, Below w15.heap.size w15 W → W.cell? ⟨D3, 0, none⟩ = some (.slice I0 256 j0) ∧ W.cell? ⟨D3, 1, none⟩ = some (.slice I1 32 j1) ∧ W.cell? ⟨D3, 2, none⟩ = some (.slice I2 256 j2) ∧ W.cell? ⟨D3, 3, none⟩ = some (.slice I3 16 j3) ∧ W.cell? ⟨D3, 4, none⟩ = some (.int .i64 mI.s) ∧ W.cell? ⟨D4, 0, none⟩ = some (.slice J0 256 l0) ∧ W.cell? ⟨D4, 1, none⟩ = some (.slice J1 32 l1) ∧ W.cell? ⟨D4, 2, none⟩ = some (.slice J2 256 l2) ∧ W.cell? ⟨D4, 3, none⟩ = some (.slice J3 16 l3) ∧ W.cell? ⟨D4, 4, none⟩ = some (.int .i64 mI.s) ∧ W.cell? ⟨bi, oi + jj * 4, none⟩ = some (.int .i64 x1) ∧ W.cell? ⟨bi, oi + jj * 4 + 1, none⟩ = some (.int .i64 x2) ∧ W.cell? ⟨bi, oi + jj * 4 + 2, none⟩ = some (.int .i64 x3) ∧ W.cell? ⟨bi, oi + jj * 4 + 3, none⟩ = some (.int .i64 x4) ∧ W.cell? ⟨bj, oj + jj * 4, none⟩ = some (.int .i64 x1) ∧ W.cell? ⟨bj, oj + jj * 4 + 1, none⟩ = some (.int .i64 x2) ∧ W.cell? ⟨bj, oj + jj * 4 + 2, none⟩ = some (.int .i64 x3) ∧ W.cell? ⟨bj, oj + jj * 4 + 3, none⟩ = some (.int .i64 x4)) := Lib.hid (fun W hb => by
                have p := (XI15.out.step hb).x
                have q := (XJ.out.step hb).x
                exact ⟨p.cell 0 rfl, p.cell 1 rfl, p.cell 2 rfl, p.cell 3 rfl, p.cell 4 rfl, q.cell 0 rfl, q.cell 1 rfl, q.cell 2 rfl, q.cell 3 rfl, q.cell 4 rfl, (hb.cell (cell_lt a0)).trans a0, (hb.cell (cell_lt a1)).trans a1, (hb.cell (cell_lt a2)).trans a2, (hb.cell (cell_lt a3)).trans a3, (hb.cell (cell_lt c0)).trans c0, (hb.cell (cell_lt c1)).trans c1, (hb.cell (cell_lt c2)).trans c2, (hb.cell (cell_lt c3)).trans c3⟩)
              have HSm := Lib.hid (fun W (a : DM D3 I0 I1 I2 I3 j0 j1 j2 j3 mI W) (b : DM D4 J0 J1 J2 J3 l0 l1 l2 l3 mI W) => lawSameMem (MD.ok_iff.2 a.q.1) a.mv b.mv)
              have hd15 : Below w15.heap.size w15 w15.drew := (Below.refl _ _).drew
              have hji : (jj : Int) < 4 := by omega
              have HW15 := Lib.hid hw15
              clear hw15 XI RI HJ HJr k14 k15 hb13 a0 a1 a2 a3 c0 c1 c2 c3 hx RI15 RJ15 M13 R13 HMj y0 y1 y2 y3 y4
              go_wp2_with fail
              rw [← HW15.out, ← hD4]
              clear hD4 HW15
              go_region_held3 (fun W => W.cell? ⟨D3, 0, none⟩ = some (.slice I0 256 j0) ∧ W.cell? ⟨D3, 1, none⟩ = some (.slice I1 32 j1) ∧ W.cell? ⟨D3, 2, none⟩ = some (.slice I2 256 j2) ∧ W.cell? ⟨D3, 3, none⟩ = some (.slice I3 16 j3) ∧ W.cell? ⟨D3, 4, none⟩ = some (.int .i64 mI.s) ∧ W.cell? ⟨D4, 0, none⟩ = some (.slice J0 256 l0) ∧ W.cell? ⟨D4, 1, none⟩ = some (.slice J1 32 l1) ∧ W.cell? ⟨D4, 2, none⟩ = some (.slice J2 256 l2) ∧ W.cell? ⟨D4, 3, none⟩ = some (.slice J3 16 l3) ∧ W.cell? ⟨D4, 4, none⟩ = some (.int .i64 mI.s) ∧ W.cell? ⟨bi, oi + jj * 4, none⟩ = some (.int .i64 x1) ∧ W.cell? ⟨bi, oi + jj * 4 + 1, none⟩ = some (.int .i64 x2) ∧ W.cell? ⟨bi, oi + jj * 4 + 2, none⟩ = some (.int .i64 x3) ∧ W.cell? ⟨bi, oi + jj * 4 + 3, none⟩ = some (.int .i64 x4) ∧ W.cell? ⟨bj, oj + jj * 4, none⟩ = some (.int .i64 x1) ∧ W.cell? ⟨bj, oj + jj * 4 + 1, none⟩ = some (.int .i64 x2) ∧ W.cell? ⟨bj, oj + jj * 4 + 2, none⟩ = some (.int .i64 x3) ∧ W.cell? ⟨bj, oj + jj * 4 + 3, none⟩ = some (.int .i64 x4))
                (first | exact HK.out _ hd15 | exact HK.out _ (bt hd15 hb16))
                (first | (go_at_call 18; refine (HSm.out _ (XI15.out.step hd15) (XJ.out.step hd15)).mono ?_; rintro e w16 ⟨rfl, hb16⟩))
              go_wp2
              go_ret
              exact ⟨rfl, bt (bt hb15.out hd15) hb16⟩
    · have i1 : ¬ (1048576 : Int) < (n : Int) := by omega
      have i2 : (1048576 : Int) < (n' : Int) := by omega
      clear h h'
      go_enter Try.func3, Try.ntmps3
      go_wp2
      go_ret
      exact ⟨rfl, Below.refl _ _⟩
  · have i1 : (1048576 : Int) < (n : Int) := by omega
    clear h h'
    go_enter Try.func3, Try.ntmps3
    go_wp2
    go_ret
    exact ⟨rfl, Below.refl _ _⟩
end Go.Proofs.Ytagdclbpgkilgaa

/- A []byte that came in, opened: its bytes as numbers below 256, in a block that is there. -/
namespace Go.Proofs.Ytagdclbpgkilgaa
open Go.RowKit Go.ChangeShapes Go.WideShapes

theorem open_bytes {H : Type} {enc : TypeId × Value → H} {P : Program} {w : World} {spare : Nat → Bool} {held : Bool} {t e : TypeId} {fuel : Nat} {v : Value} {x : DataW H × List MemPlace} (ht : P.underlying t = some (.slice e)) (he : P.underlying e = some (.int .u8)) (hce : P.cellsOf e = 1)
    (h : DataW.trod enc P w 0 spare held fuel t [v] = some x) :
    ∃ A n c, ∃ zs : List Nat, v = .slice A n c ∧ zs.length = n ∧ n ≤ maxLen ∧ ByB w w.heap.size A zs := by
  rcases Deep.open_slice1 ht hce h with ⟨hcs, _⟩ | ⟨a, len, cap, m, k, V, D, Pl, hcs, _, hl, hm, hmm, _, hx⟩
  · injection hcs with hv _
    exact ⟨none, 0, 0, [], hv, rfl, by unfold maxLen; omega, fun i hi => by simp at hi⟩
  · injection hcs with hv _
    have hlm : len ≤ m := by rw [hmm]; split <;> omega
    obtain ⟨S, hS⟩ := Deep.choose_lt (n := len) (p := fun i (s : Nat) => w.cell? (a.add i) = some (.int .u8 (s : Int)) ∧ s < 256) (fun i hi => by
      obtain ⟨h1, h2⟩ := hx i (by omega)
      obtain ⟨s, hc, _, hs⟩ := DataW.trod_int he h2
      injection hc with hc _
      have hr : 0 ≤ s ∧ s < 256 := by
        have hs' : decide (IntKind.u8.min ≤ s) && decide (s ≤ IntKind.u8.max) := hs
        rw [Bool.and_eq_true, decide_eq_true_eq, decide_eq_true_eq] at hs'
        have e1 : IntKind.u8.min = 0 := by decide
        have e2 : IntKind.u8.max = 255 := by decide
        rw [e1, e2] at hs'
        omega
      exact ⟨s.toNat, by rw [h1, hc, Int.toNat_of_nonneg hr.1], by omega⟩)
    refine ⟨some a, len, cap, (List.range len).map S, hv, by simp, by omega, fun i hi => ?_⟩
    have hi' : i < len := by simpa using hi
    have h0 := (hS 0 (by omega)).1
    have hsp := World.cell?_spot h0
    obtain ⟨b, off, spot⟩ := a
    have hsp' : spot = none := by simpa [Addr.add] using hsp
    subst hsp'
    have hc := add_plain (hS i hi').1 rfl
    refine ⟨b, off, rfl, cell_lt hc, ?_, ?_⟩
    · rw [getD_range len S _ i hi']; exact hc
    · rw [getD_range len S _ i hi']; exact (hS i hi').2
set_option maxRecDepth 100000 in
theorem cellsU8 : Try.prog.cellsOf 5 = 1 := by kernel_rfl
end Go.Proofs.Ytagdclbpgkilgaa
