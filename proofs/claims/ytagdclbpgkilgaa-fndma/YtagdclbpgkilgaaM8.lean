/- Texts of this claim, one behind the other: DrawProg, SameFlash, SameArray, SameFlashA, MemApi, NewMem, NewMemS, DrawMem, FlashCyc, At2, RegionTop, WalkBus, DmaCalls, RegSets. -/
import Derived.Deep.RegionHeld3
import Derived.IntWalk
import Derived.Test.YtagdclbpgkilgaaM7
/- The source's program: a row of ints, at most 256. Written by gen_prog.py. -/
namespace Go.Proofs.Ytagdclbpgkilgaa
open Go.RowKit

/-- A row that grows while the source is drawn from. -/
structure PI (w : World) (b : Nat) (A : Option Addr) (n c : Nat) (zs : List Nat) (K k : Nat) (A' : Option Addr) (c' : Nat) (wr : World) : Prop where
  btw : Btw b (b + 1) w wr
  s : Src wr b A n c zs K
  i : ∃ ps : List Int, (ps.length = k ∧ ∀ z ∈ ps, 0 ≤ z ∧ z ≤ 255) ∧ wr.ownsRow w.heap.size 3 1 (.slice A' k c') k (ps.map (Value.int .i64))
  lt : b < w.heap.size
  sz : w.heap.size + 1 ≤ wr.heap.size
section
variable {w wr w2 : World} {b : Nat} {A : Option Addr} {n c : Nat} {zs : List Nat} {K k : Nat} {A' : Option Addr} {c' : Nat}
theorem PI.next {K2 : Nat} (h : PI w b A n c zs K k A' c' wr) (S : Src w2 b A n c zs K2) (hb : Btw b (b + 1) wr w2) : PI w b A n c zs K2 k A' c' w2 := by
  obtain ⟨ps, hl, hr⟩ := h.i
  exact ⟨h.btw.trans hb, S, ⟨ps, hl, rowv_keep hr (fun k hk hk2 => hb.block k hk2 (.inr (by have := h.lt; omega)))⟩, h.lt, Nat.le_trans h.sz hb.size⟩
theorem PI.step (h : PI w b A n c zs K k A' c' wr) (hb : Below wr.heap.size wr w2) : PI w b A n c zs K k A' c' w2 := by
  obtain ⟨ps, hl, hr⟩ := h.i
  exact ⟨btw_below h.btw hb h.btw.size, h.s.below hb h.s.lt, ⟨ps, hl, rowv_below hr hb⟩, h.lt, Nat.le_trans h.sz hb.size⟩
theorem PI.mono {K2 : Nat} (h : PI w b A n c zs K k A' c' wr) (hk : K ≤ K2) : PI w b A n c zs K2 k A' c' wr := ⟨h.btw, h.s.mono hk, h.i, h.lt, h.sz⟩
set_option maxRecDepth 100000 in
theorem wpList_app_ints {ops : Array Oper} {rest : List Oper} {o : Oper} {a : Act} {Q : Exit → Act → World → Prop} {cs : Array Value} (hgd : o.guard = none) (s x : Operand)
    (ho : o.op = .call { callee := .builtin .append, args := #[s, x], argTypes := #[23, 23] }) (I : PI w b A n c zs K k A' c' wr) (us : List Int) (hcs : cs = (us.map (Value.int .i64)).toArray) (m d : Nat) (hm : us.length = m)
    (hs : a.eval s = .slice A' k c') (hx : a.eval x = .slice (some ⟨wr.heap.size, 0, none⟩) m d) (hk : k + m ≤ 1000) (hby : ∀ u ∈ us, 0 ≤ u ∧ u ≤ 255)
    (h : ∀ A2 c2 w2, Hid (PI w b A n c zs K (k + m) A2 c2 w2) → wpList Try.prog ops Q rest (a.put o.dst (.slice A2 (k + m) c2)) w2) : wpList Try.prog ops Q (o :: rest) a (wr.alloc (.cells cs 3)) := by
  obtain ⟨ps, hl, hr⟩ := I.i
  have hba := alloc_below wr (.cells cs 3)
  have hX := Box.new wr 3 cs
  refine wpList_app_many hgd s x 23 3 ho (.int .i64 0) 1 8 elemInt Try.underlying23 w.heap.size (.slice A' k c') k (ps.map (Value.int .i64)) hs (rowv_below hr hba) ⟨wr.heap.size, 0, none⟩ m d hx (us.map (Value.int .i64)) (by simp [hm]) (fun j u hj => ?_) (fun u hu => ?_) (by unfold maxLen; omega) (by omega) (by have := I.sz; have := hba.size; omega) (fun A2 c2 w2 hR _ _ hb => ?_)
  · rw [addr_add, Nat.zero_add]; exact hX.cell j (by rw [hcs]; simpa using hj)
  · obtain ⟨z, _, rfl⟩ := List.mem_map.1 hu; rfl
  · have hbt : Btw b (b + 1) w w2 := btw_below (btw_below I.btw hba I.btw.size) hb (Nat.le_refl _)
    exact h A2 c2 w2 (Lib.hid ⟨hbt, (I.s.below hba I.s.lt).below hb I.lt, ⟨ps ++ us, ⟨by simp [hl.1, hm], fun z hz => (List.mem_append.1 hz).elim (hl.2 z) (hby z)⟩, by rw [List.map_append]; exact hR⟩, I.lt, by have := I.sz; have := hba.size; have := hb.size; omega⟩)
end

set_option maxRecDepth 100000 in
set_option maxHeartbeats 4000000 in
theorem srcSize20 (b : Nat) (A : Option Addr) (n c : Nat) (zs : List Nat) (K : Nat) (w : World) (hn : n ≤ maxLen) (h : Src w b A n c zs K) :
    Calls Try.prog 91 #[.pointer (some ⟨b, 0, none⟩), .int .i64 20] w fun e w' => ∃ v : Nat, e = .returned (.int .i64 v) ∧ (1 ≤ v ∧ v ≤ 20) ∧ w = w' := by
  unfold maxLen at hn
  obtain ⟨k, sd, X, q2, q3, q4, q5⟩ := h
  have x0 := X.cell 0 rfl
  clear X q5
  go_enter Try.func91, Try.ntmps91
  go_wp2
  · refine bodyPost_ret (v := .int .i64 ((20 : Nat) : Int)) (by simp [results, Try.results91, go_sem]) rfl ?_
    exact ⟨20, rfl, by omega, rfl⟩
  · refine bodyPost_ret (v := .int .i64 ((1 + n / 12 : Nat) : Int)) (by simp [results, Try.results91, go_sem]) rfl ?_
    exact ⟨_, rfl, by omega, rfl⟩

/-- A drawn row of ints. -/
def GivesProg (w : World) (R : World → Prop) (e : Ending) (w' : World) : Prop :=
  ∃ ps A c, Hid (ps.length ≤ 256 ∧ ∀ z ∈ ps, 0 ≤ z ∧ z ≤ 255) ∧ e = .returned (.slice A ps.length c) ∧ Hid (OwnI w' w.heap.size w'.heap.size A ps) ∧ Hid (R w')

set_option maxRecDepth 100000 in
set_option maxHeartbeats 16000000 in
theorem srcProgram (b : Nat) (A : Option Addr) (n c : Nat) (zs : List Nat) (K : Nat) (w : World) (hn : n ≤ maxLen) (hK : K ≤ 1000) (h : Src w b A n c zs K) :
    Calls Try.prog 67 #[.pointer (some ⟨b, 0, none⟩)] w (GivesProg w (fun w' => Src w' b A n c zs (K + 200) ∧ Btw b (b + 1) w w')) := by
  have hlt : b < w.heap.size := h.lt
  have hb0 := alloc_below w (.cells #[] 3)
  have HI0 : Hid (PI w b A n c zs K 0 (some ⟨w.heap.size, 0, none⟩) 0 (w.alloc (.cells #[] 3))) := Lib.hid ⟨Btw.of_below hb0 _ _, h.below hb0 hlt, ⟨[], ⟨rfl, fun z hz => by simp at hz⟩, rowv_empty (Nat.le_refl _) (Box.new _ _ _)⟩, hlt, by simp⟩
  have HSi := Lib.hid (fun W (h : Src W b A n c zs K) => srcSize20 b A n c zs K W hn h)
  have HNx := Lib.hid (fun N K W (h1 : 2 ≤ N) (h2 : N ≤ 256) (h3 : K ≤ 10000) (h : Src W b A n c zs K) => srcNext N b A n c zs K W h1 h2 (by omega) h)
  have HCh := Lib.hid (fun K W (h3 : K ≤ 10000) (h : Src W b A n c zs K) => srcChance 6 b A n c zs K W (by omega) (by omega) (by omega) h)
  clear h hn
  go_enter Try.func67, Try.ntmps67
  go_wp2_with fail
  generalize w.alloc (.cells #[] 3) = w1 at HI0 hb0 ⊢
  refine (HSi.out w1 HI0.out.s).mono ?_
  rintro e w1' ⟨v0, rfl, ⟨hv0, hv1⟩, rfl⟩
  have HN1 := Lib.hid (HNx.out (v0 + 6) K w1 (by omega) (by omega) (by omega) HI0.out.s)
  rw [show ((v0 + 6 : Nat) : Int) = (v0 : Int) + 6 by omega] at HN1
  go_wp2_with fail
  refine HN1.out.mono ?_
  rintro e w2 ⟨v, rfl, hv, S2, hb2⟩
  have HI2 := Lib.hid (HI0.out.next S2.out hb2)
  have hv25 : v ≤ 25 := by omega
  clear HI0 HSi HN1 hb0 hb2 S2 hv hv0 hv1 w1
  go_wp2
  go_loopw [3, 4] (fun s q wr => ∃ (i k : Nat) (A' : Option Addr) (c' : Nat), i ≤ 25 ∧ k + 3 * i ≤ 75 ∧ q = .int .i64 i ∧ s = .slice A' k c' ∧ Hid (PI w b A n c zs (K + 1 + 5 * (25 - i)) k A' c' wr)) (fun _ q _ => (intOf q).toNat)
  case atStart => exact ⟨v, 0, _, _, hv25, by omega, rfl, rfl, Lib.hid (HI2.out.mono (by omega))⟩
  case round =>
    clear HI2 hv25
    obtain ⟨i, k, A', c', hi25, hk75, rfl, rfl, I⟩ := hrel
    by_cases hi : 0 < i
    · have hi' : (0 : Int) < (i : Int) := by omega
      obtain ⟨K', hK'⟩ : ∃ K', K' = K + 1 + 5 * (25 - i) := ⟨_, rfl⟩
      rw [← hK'] at I
      have hKb : K' ≤ 5000 := by omega
      have HKr : Hid (K' + 5 ≤ K + 1 + 5 * (25 - (i - 1))) := Lib.hid (by omega)
      clear hK'
      have HN1 := Lib.hid (HNx.out 22 K' wr (by omega) (by omega) (by omega) I.out.s)
      go_wp2_with fail
      refine HN1.out.mono ?_
      rintro e w3 ⟨op, rfl, hop, S3, hb3⟩
      have I3 := Lib.hid (I.out.next S3.out hb3)
      have HN2 := Lib.hid (HNx.out 4 (K' + 1) w3 (by omega) (by omega) (by omega) I3.out.s)
      clear HN1 S3 hb3 I
      go_wp2_with fail
      refine HN2.out.mono ?_
      rintro e w4 ⟨rg, rfl, hrg, S4, hb4⟩
      have I4 := Lib.hid (I3.out.next S4.out hb4)
      clear HN2 S4 hb4 I3
      have hkk : k ≤ 72 := by omega
      have g1 : IntKind.i64.wrap (8 * (op : Int)) = 8 * (op : Int) := IntWalk.i64_in _ (by omega)
      have g2 : IntKind.i64.wrap (8 * (op : Int) + (rg : Int)) = 8 * (op : Int) + (rg : Int) := IntWalk.i64_in _ (by omega)
      have h7 : op < 5 ∨ op = 5 ∨ (op = 6 ∨ op = 7) ∨ (8 ≤ op ∧ op ≤ 14) ∨ (15 ≤ op ∧ op ≤ 18) ∨ op = 19 ∨ (op = 20 ∨ op = 21) := by omega
      rcases h7 with h7 | h7 | h7 | h7 | h7 | h7 | h7
      · have qlt5 : (op : Int) < 5 := by omega
        have qgt14 : ¬ (14 : Int) < (op : Int) := by omega
        have qe6 : ((op : Int) == 6) = false := by simp; omega
        have qe7 : ((op : Int) == 7) = false := by simp; omega
        have qge15 : ¬ (15 : Int) ≤ (op : Int) := by omega
        have qe5 : ((op : Int) == 5) = false := by simp; omega
        have qe20 : ((op : Int) == 20) = false := by simp; omega
        have qe21 : ((op : Int) == 21) = false := by simp; omega
        clear h7
        go_wp2_with (at_builtin; refine wpList_app_ints rfl (.tmp 27) (.tmp 32) rfl I4.out [_] rfl 1 1 rfl rfl rfl (by omega) (by simp; try omega) ?_)
        intro A5 c5 w5 I5
        go_wp2
        go_roundw
        case rel => exact ⟨i - 1, _, _, _, by omega, by omega, by go_num, rfl, Lib.hid (I5.out.mono (by have := HKr.out; omega))⟩
        case measure => simp [intOf]; omega
      · have qlt5 : ¬ (op : Int) < 5 := by omega
        have qgt14 : ¬ (14 : Int) < (op : Int) := by omega
        have qe6 : ((op : Int) == 6) = false := by simp; omega
        have qe7 : ((op : Int) == 7) = false := by simp; omega
        have qge15 : ¬ (15 : Int) ≤ (op : Int) := by omega
        have qe5 : ((op : Int) == 5) = true := by simp; omega
        have qe20 : ((op : Int) == 20) = false := by simp; omega
        have qe21 : ((op : Int) == 21) = false := by simp; omega
        clear h7
        go_wp2_with (at_builtin; refine wpList_app_ints rfl (.tmp 27) (.tmp 32) rfl I4.out [_] rfl 1 1 rfl rfl rfl (by omega) (by simp; try omega) ?_)
        intro A5 c5 w5 I5
        have HN3 := Lib.hid (HNx.out 4 (K' + 2) w5 (by omega) (by omega) (by omega) I5.out.s)
        go_wp2_with fail
        refine HN3.out.mono ?_
        rintro e w6 ⟨x, rfl, hx, S6, hb6⟩
        have I6 := Lib.hid (I5.out.next S6.out hb6)
        have HN4 := Lib.hid (HNx.out 256 (K' + 3) w6 (by omega) (by omega) (by omega) I6.out.s)
        clear HN3 S6 hb6 I5
        go_wp2_with fail
        refine HN4.out.mono ?_
        rintro e w7 ⟨y, rfl, hy, S7, hb7⟩
        have I7 := Lib.hid (I6.out.next S7.out hb7)
        have hba7 := alloc_below w7 (.cells #[.int .i64 (x : Int), .int .i64 (y : Int)] 3)
        have I7a := Lib.hid (I7.out.step hba7)
        have HN5 := Lib.hid (HNx.out 2 (K' + 4) _ (by omega) (by omega) (by omega) I7a.out.s)
        have X7 := Lib.hid (Box.new w7 3 #[.int .i64 (x : Int), .int .i64 (y : Int)])
        have HB7 : Hid (b < w7.heap.size) := Lib.hid I7.out.s.lt
        clear HN4 S7 hb7 I6 I7 hba7
        go_wp2_with fail
        refine HN5.out.mono ?_
        rintro e w8 ⟨z, rfl, hz, S8, hb8⟩
        have I8 := Lib.hid (I7a.out.next S8.out hb8)
        have X8 := X7.out.btw hb8 (.inr (by have := HB7.out; omega))
        have x0 := X8.cell 0 rfl
        have x1 := X8.cell 1 rfl
        clear HN5 S8 hb8 I7a X7 X8
        have hz2 : z = 0 ∨ z = 1 := by omega
        rcases hz2 with rfl | rfl
        · go_wp2_with (at_builtin; refine wpList_app_ints rfl (.tmp 71) (.tmp 81) rfl I8.out [_] rfl 1 1 rfl rfl rfl (by omega) (by simp; try omega) ?_)
          intro A9 c9 w9 I9
          go_wp2
          go_roundw
          case rel => exact ⟨i - 1, _, _, _, by omega, by omega, by go_num, rfl, Lib.hid (I9.out.mono (by have := HKr.out; omega))⟩
          case measure => simp [intOf]; omega
        · go_wp2_with (at_builtin; refine wpList_app_ints rfl (.tmp 71) (.tmp 81) rfl I8.out [_] rfl 1 1 rfl rfl rfl (by omega) (by simp; try omega) ?_)
          intro A9 c9 w9 I9
          go_wp2
          go_roundw
          case rel => exact ⟨i - 1, _, _, _, by omega, by omega, by go_num, rfl, Lib.hid (I9.out.mono (by have := HKr.out; omega))⟩
          case measure => simp [intOf]; omega
      · rcases h7 with rfl | rfl
        · go_wp2_with (at_builtin; refine wpList_app_ints rfl (.tmp 27) (.tmp 32) rfl I4.out [_] rfl 1 1 rfl rfl rfl (by omega) (by simp; try omega) ?_)
          intro A5 c5 w5 I5
          have HN3 := Lib.hid (HNx.out 256 (K' + 2) w5 (by omega) (by omega) (by omega) I5.out.s)
          go_wp2_with fail
          refine HN3.out.mono ?_
          rintro e w6 ⟨x, rfl, hx, S6, hb6⟩
          have I6 := Lib.hid (I5.out.next S6.out hb6)
          have HN4 := Lib.hid (HNx.out 3 (K' + 3) w6 (by omega) (by omega) (by omega) I6.out.s)
          clear HN3 S6 hb6 I5
          go_wp2_with fail
          refine HN4.out.mono ?_
          rintro e w7 ⟨y, rfl, hy, S7, hb7⟩
          have I7 := Lib.hid (I6.out.next S7.out hb7)
          clear HN4 S7 hb7 I6
          go_wp2_with (at_builtin; refine wpList_app_ints rfl (.tmp 41) (.tmp 46) rfl I7.out [_, _] rfl 2 2 rfl rfl rfl (by omega) (by simp; try omega) ?_)
          intro A8 c8 w8 I8
          go_wp2
          go_roundw
          case rel => exact ⟨i - 1, _, _, _, by omega, by omega, by go_num, rfl, Lib.hid (I8.out.mono (by have := HKr.out; omega))⟩
          case measure => simp [intOf]; omega
        · go_wp2_with (at_builtin; refine wpList_app_ints rfl (.tmp 27) (.tmp 32) rfl I4.out [_] rfl 1 1 rfl rfl rfl (by omega) (by simp; try omega) ?_)
          intro A5 c5 w5 I5
          have HN3 := Lib.hid (HNx.out 256 (K' + 2) w5 (by omega) (by omega) (by omega) I5.out.s)
          go_wp2_with fail
          refine HN3.out.mono ?_
          rintro e w6 ⟨x, rfl, hx, S6, hb6⟩
          have I6 := Lib.hid (I5.out.next S6.out hb6)
          have HN4 := Lib.hid (HNx.out 3 (K' + 3) w6 (by omega) (by omega) (by omega) I6.out.s)
          clear HN3 S6 hb6 I5
          go_wp2_with fail
          refine HN4.out.mono ?_
          rintro e w7 ⟨y, rfl, hy, S7, hb7⟩
          have I7 := Lib.hid (I6.out.next S7.out hb7)
          clear HN4 S7 hb7 I6
          go_wp2_with (at_builtin; refine wpList_app_ints rfl (.tmp 41) (.tmp 46) rfl I7.out [_, _] rfl 2 2 rfl rfl rfl (by omega) (by simp; try omega) ?_)
          intro A8 c8 w8 I8
          go_wp2
          go_roundw
          case rel => exact ⟨i - 1, _, _, _, by omega, by omega, by go_num, rfl, Lib.hid (I8.out.mono (by have := HKr.out; omega))⟩
          case measure => simp [intOf]; omega
      · have qlt5 : ¬ (op : Int) < 5 := by omega
        have qgt14 : ¬ (14 : Int) < (op : Int) := by omega
        have qe6 : ((op : Int) == 6) = false := by simp; omega
        have qe7 : ((op : Int) == 7) = false := by simp; omega
        have qge15 : ¬ (15 : Int) ≤ (op : Int) := by omega
        have qe5 : ((op : Int) == 5) = false := by simp; omega
        have qe20 : ((op : Int) == 20) = false := by simp; omega
        have qe21 : ((op : Int) == 21) = false := by simp; omega
        clear h7
        go_wp2_with (at_builtin; refine wpList_app_ints rfl (.tmp 27) (.tmp 32) rfl I4.out [_] rfl 1 1 rfl rfl rfl (by omega) (by simp; try omega) ?_)
        intro A5 c5 w5 I5
        go_wp2
        go_roundw
        case rel => exact ⟨i - 1, _, _, _, by omega, by omega, by go_num, rfl, Lib.hid (I5.out.mono (by have := HKr.out; omega))⟩
        case measure => simp [intOf]; omega
      · have qlt5 : ¬ (op : Int) < 5 := by omega
        have qgt14 : (14 : Int) < (op : Int) := by omega
        have qe6 : ((op : Int) == 6) = false := by simp; omega
        have qe7 : ((op : Int) == 7) = false := by simp; omega
        have qge15 : (15 : Int) ≤ (op : Int) := by omega
        have qe5 : ((op : Int) == 5) = false := by simp; omega
        have qe20 : ((op : Int) == 20) = false := by simp; omega
        have qe21 : ((op : Int) == 21) = false := by simp; omega
        have qle18 : (op : Int) ≤ 18 := by omega
        clear h7
        go_wp2_with (at_builtin; refine wpList_app_ints rfl (.tmp 27) (.tmp 32) rfl I4.out [_] rfl 1 1 rfl rfl rfl (by omega) (by simp; try omega) ?_)
        intro A5 c5 w5 I5
        have HN3 := Lib.hid (HNx.out 40 (K' + 2) w5 (by omega) (by omega) (by omega) I5.out.s)
        go_wp2_with fail
        refine HN3.out.mono ?_
        rintro e w6 ⟨x, rfl, hx, S6, hb6⟩
        have I6 := Lib.hid (I5.out.next S6.out hb6)
        clear HN3 S6 hb6 I5
        go_wp2_with (at_builtin; refine wpList_app_ints rfl (.tmp 55) (.tmp 58) rfl I6.out [_, _] rfl 2 2 rfl rfl rfl (by omega) (by simp; try omega) ?_)
        intro A8 c8 w8 I8
        go_wp2
        go_roundw
        case rel => exact ⟨i - 1, _, _, _, by omega, by omega, by go_num, rfl, Lib.hid (I8.out.mono (by have := HKr.out; omega))⟩
        case measure => simp [intOf]; omega
      · have qlt5 : ¬ (op : Int) < 5 := by omega
        have qgt14 : (14 : Int) < (op : Int) := by omega
        have qe6 : ((op : Int) == 6) = false := by simp; omega
        have qe7 : ((op : Int) == 7) = false := by simp; omega
        have qge15 : (15 : Int) ≤ (op : Int) := by omega
        have qe5 : ((op : Int) == 5) = false := by simp; omega
        have qe20 : ((op : Int) == 20) = false := by simp; omega
        have qe21 : ((op : Int) == 21) = false := by simp; omega
        have qle18 : ¬ (op : Int) ≤ 18 := by omega
        clear h7
        go_wp2_with (at_builtin; refine wpList_app_ints rfl (.tmp 27) (.tmp 32) rfl I4.out [_] rfl 1 1 rfl rfl rfl (by omega) (by simp; try omega) ?_)
        intro A5 c5 w5 I5
        go_wp2
        go_roundw
        case rel => exact ⟨i - 1, _, _, _, by omega, by omega, by go_num, rfl, Lib.hid (I5.out.mono (by have := HKr.out; omega))⟩
        case measure => simp [intOf]; omega
      · rcases h7 with rfl | rfl
        · go_wp2_with (at_builtin; refine wpList_app_ints rfl (.tmp 27) (.tmp 32) rfl I4.out [_] rfl 1 1 rfl rfl rfl (by omega) (by simp; try omega) ?_)
          intro A5 c5 w5 I5
          have HN3 := Lib.hid (HNx.out 4 (K' + 2) w5 (by omega) (by omega) (by omega) I5.out.s)
          go_wp2_with fail
          refine HN3.out.mono ?_
          rintro e w6 ⟨x, rfl, hx, S6, hb6⟩
          have I6 := Lib.hid (I5.out.next S6.out hb6)
          have HN4 := Lib.hid (HNx.out 256 (K' + 3) w6 (by omega) (by omega) (by omega) I6.out.s)
          clear HN3 S6 hb6 I5
          go_wp2_with fail
          refine HN4.out.mono ?_
          rintro e w7 ⟨y, rfl, hy, S7, hb7⟩
          have I7 := Lib.hid (I6.out.next S7.out hb7)
          have hba7 := alloc_below w7 (.cells #[.int .i64 (x : Int), .int .i64 (y : Int)] 3)
          have I7a := Lib.hid (I7.out.step hba7)
          have HN5 := Lib.hid (HNx.out 2 (K' + 4) _ (by omega) (by omega) (by omega) I7a.out.s)
          have X7 := Lib.hid (Box.new w7 3 #[.int .i64 (x : Int), .int .i64 (y : Int)])
          have HB7 : Hid (b < w7.heap.size) := Lib.hid I7.out.s.lt
          clear HN4 S7 hb7 I6 I7 hba7
          go_wp2_with fail
          refine HN5.out.mono ?_
          rintro e w8 ⟨z, rfl, hz, S8, hb8⟩
          have I8 := Lib.hid (I7a.out.next S8.out hb8)
          have X8 := X7.out.btw hb8 (.inr (by have := HB7.out; omega))
          have x0 := X8.cell 0 rfl
          have x1 := X8.cell 1 rfl
          clear HN5 S8 hb8 I7a X7 X8
          have hz2 : z = 0 ∨ z = 1 := by omega
          rcases hz2 with rfl | rfl
          · go_wp2_with (at_builtin; refine wpList_app_ints rfl (.tmp 71) (.tmp 81) rfl I8.out [_] rfl 1 1 rfl rfl rfl (by omega) (by simp; try omega) ?_)
            intro A9 c9 w9 I9
            go_wp2
            go_roundw
            case rel => exact ⟨i - 1, _, _, _, by omega, by omega, by go_num, rfl, Lib.hid (I9.out.mono (by have := HKr.out; omega))⟩
            case measure => simp [intOf]; omega
          · go_wp2_with (at_builtin; refine wpList_app_ints rfl (.tmp 71) (.tmp 81) rfl I8.out [_] rfl 1 1 rfl rfl rfl (by omega) (by simp; try omega) ?_)
            intro A9 c9 w9 I9
            go_wp2
            go_roundw
            case rel => exact ⟨i - 1, _, _, _, by omega, by omega, by go_num, rfl, Lib.hid (I9.out.mono (by have := HKr.out; omega))⟩
            case measure => simp [intOf]; omega
        · go_wp2_with (at_builtin; refine wpList_app_ints rfl (.tmp 27) (.tmp 32) rfl I4.out [_] rfl 1 1 rfl rfl rfl (by omega) (by simp; try omega) ?_)
          intro A5 c5 w5 I5
          have HN3 := Lib.hid (HNx.out 4 (K' + 2) w5 (by omega) (by omega) (by omega) I5.out.s)
          go_wp2_with fail
          refine HN3.out.mono ?_
          rintro e w6 ⟨x, rfl, hx, S6, hb6⟩
          have I6 := Lib.hid (I5.out.next S6.out hb6)
          have HN4 := Lib.hid (HNx.out 256 (K' + 3) w6 (by omega) (by omega) (by omega) I6.out.s)
          clear HN3 S6 hb6 I5
          go_wp2_with fail
          refine HN4.out.mono ?_
          rintro e w7 ⟨y, rfl, hy, S7, hb7⟩
          have I7 := Lib.hid (I6.out.next S7.out hb7)
          have hba7 := alloc_below w7 (.cells #[.int .i64 (x : Int), .int .i64 (y : Int)] 3)
          have I7a := Lib.hid (I7.out.step hba7)
          have HN5 := Lib.hid (HNx.out 2 (K' + 4) _ (by omega) (by omega) (by omega) I7a.out.s)
          have X7 := Lib.hid (Box.new w7 3 #[.int .i64 (x : Int), .int .i64 (y : Int)])
          have HB7 : Hid (b < w7.heap.size) := Lib.hid I7.out.s.lt
          clear HN4 S7 hb7 I6 I7 hba7
          go_wp2_with fail
          refine HN5.out.mono ?_
          rintro e w8 ⟨z, rfl, hz, S8, hb8⟩
          have I8 := Lib.hid (I7a.out.next S8.out hb8)
          have X8 := X7.out.btw hb8 (.inr (by have := HB7.out; omega))
          have x0 := X8.cell 0 rfl
          have x1 := X8.cell 1 rfl
          clear HN5 S8 hb8 I7a X7 X8
          have hz2 : z = 0 ∨ z = 1 := by omega
          rcases hz2 with rfl | rfl
          · go_wp2_with (at_builtin; refine wpList_app_ints rfl (.tmp 71) (.tmp 81) rfl I8.out [_] rfl 1 1 rfl rfl rfl (by omega) (by simp; try omega) ?_)
            intro A9 c9 w9 I9
            go_wp2
            go_roundw
            case rel => exact ⟨i - 1, _, _, _, by omega, by omega, by go_num, rfl, Lib.hid (I9.out.mono (by have := HKr.out; omega))⟩
            case measure => simp [intOf]; omega
          · go_wp2_with (at_builtin; refine wpList_app_ints rfl (.tmp 71) (.tmp 81) rfl I8.out [_] rfl 1 1 rfl rfl rfl (by omega) (by simp; try omega) ?_)
            intro A9 c9 w9 I9
            go_wp2
            go_roundw
            case rel => exact ⟨i - 1, _, _, _, by omega, by omega, by go_num, rfl, Lib.hid (I9.out.mono (by have := HKr.out; omega))⟩
            case measure => simp [intOf]; omega
    · have hi' : ¬ (0 : Int) < (i : Int) := by omega
      have HC1 := Lib.hid (HCh.out _ wr (by omega) I.out.s)
      go_wp2_with fail
      refine HC1.out.mono ?_
      rintro e w3 ⟨f, rfl, S3, hb3⟩
      have I3 := Lib.hid (I.out.next S3.out hb3)
      clear HC1 S3 hb3 I HNx HCh
      cases f
      · obtain ⟨ps, hl, hr⟩ := I3.out.i
        have HO : Hid (OwnI w3 w.heap.size w3.heap.size A' ps) := Lib.hid (GroI.own (base := w.heap.size) (n := k) (c := c') (by unfold GroI; rw [hl.1]; exact hr) (Nat.le_refl _))
        have HF : Hid (Src w3 b A n c zs (K + 200) ∧ Btw b (b + 1) w w3) := Lib.hid ⟨I3.out.s.mono (by omega), I3.out.btw⟩
        have HBy := Lib.hid hl.2
        obtain rfl := hl.1
        clear hr I3 hl
        go_wp2
        go_ret
        exact ⟨ps, A', c', Lib.hid ⟨by omega, HBy.out⟩, rfl, HO, HF⟩
      · go_wp2_with (at_builtin; refine wpList_app_ints rfl (.tmp 85) (.tmp 86) rfl I3.out [_] rfl 1 1 rfl rfl rfl (by omega) (by simp; try omega) ?_)
        intro A5 c5 w5 I5
        obtain ⟨ps, hl, hr⟩ := I5.out.i
        have HO : Hid (OwnI w5 w.heap.size w5.heap.size A5 ps) := Lib.hid (GroI.own (base := w.heap.size) (n := k + 1) (c := c5) (by unfold GroI; rw [hl.1]; exact hr) (Nat.le_refl _))
        have HF : Hid (Src w5 b A n c zs (K + 200) ∧ Btw b (b + 1) w w5) := Lib.hid ⟨I5.out.s.mono (by omega), I5.out.btw⟩
        have HLn : Hid (k + 1 = ps.length) := Lib.hid hl.1.symm
        have HBy := Lib.hid hl.2
        clear hr I5 I3 hl
        go_wp2
        go_ret
        exact ⟨ps, A5, c5, Lib.hid ⟨by have := HLn.out; omega, HBy.out⟩, congrArg (fun m => Ending.returned (Value.slice A5 m c5)) HLn.out, HO, HF⟩
end Go.Proofs.Ytagdclbpgkilgaa

/- Contracts of slices.Equal over []int and []bool, and of both SameFlash. -/
namespace Go.Proofs.Ytagdclbpgkilgaa
open Go.RowKit

def sameFl (zs zs' : List Int) (gs gs' : List Bool) (st st' : Int) : Bool := decide (zs = zs') && (decide (gs = gs') && decide (st = st'))

/-- The same bytes and the same protection. -/
def sameArr (zs zs' : List Int) (gs gs' : List Bool) : Bool := decide (zs = zs') && decide (gs = gs')

end Go.Proofs.Ytagdclbpgkilgaa

/- Contracts of l04Same and both SameArray. -/
namespace Go.Proofs.Ytagdclbpgkilgaa
open Go.RowKit

/-- What SameArray answers. -/
def sameArrC (zs zs' : List Int) (gs gs' : List Bool) (st st' : Int) : Bool × Int := if okFlash zs gs st && okFlash zs' gs' st' then (sameArr zs zs' gs gs', 0) else (false, 1)

end Go.Proofs.Ytagdclbpgkilgaa

/- SameFlash and SameArray on leaves. -/
namespace Go.Proofs.Ytagdclbpgkilgaa
open Go.RowKit

section
variable (A0 A1 : Option Addr) (c0 c1 : Nat) (d0 : List Int) (d1 : List Bool) (d2 : Int) (B0 B1 : Option Addr) (e0 e1 : Nat) (g0 : List Int) (g1 : List Bool) (g2 : Int) (w : World)
end
end Go.Proofs.Ytagdclbpgkilgaa

/- SameMem on both sides; the memory bus's functions on leaves. Written by a script (gen_memapi.py). -/
namespace Go.Proofs.Ytagdclbpgkilgaa
open Go.RowKit

def sameMm (d0 d1 d2 : List Int) (d3 : List Bool) (d4 : Int) (g0 g1 g2 : List Int) (g3 : List Bool) (g4 : Int) : Bool := decide (d0 = g0) && (decide (d1 = g1) && sameFl d2 g2 d3 g3 d4 g4)
section
variable (A0 A1 A2 A3 : Option Addr) (n0 n1 n2 n3 c0 c1 c2 c3 : Nat) (d0 d1 d2 : List Int) (d3 : List Bool) (d4 : Int) (B0 B1 B2 B3 : Option Addr) (m0 m1 m2 m3 e0 e1 e2 e3 : Nat) (g0 g1 g2 : List Int) (g3 : List Bool) (g4 : Int) (w : World)
end

theorem putF_bnd (d0 d1 d2 : List Int) (d3 : List Bool) (d4 a v : Int) (h : szA [.I d0, .I d1, .I d2, .B d3] ≤ 1048576) : lenA [.I (putF d0 d1 d2 d3 d4 a v).1, .I (putF d0 d1 d2 d3 d4 a v).2.1, .I (putF d0 d1 d2 d3 d4 a v).2.2.1, .B (putF d0 d1 d2 d3 d4 a v).2.2.2.1] ≤ 4294967296 := by
  have q := Nat.le_trans (szA_len _) (Nat.mul_le_mul_left 16 h)
  simp only [lenA, Lf.len] at q ⊢
  unfold putF
  split
  · simp only [putR_len, putI_len, putZ_len, putG_len]; omega
  · simp
section
variable (A0 A1 A2 A3 : Option Addr) (c0 c1 c2 c3 : Nat) (d0 d1 d2 : List Int) (d3 : List Bool) (d4 : Int) (w : World)
set_option maxRecDepth 100000 in
theorem specMemOKA (h : RepA w [.slice A0 d0.length c0, .slice A1 d1.length c1, .slice A2 d2.length c2, .slice A3 d3.length c3] [.I d0, .I d1, .I d2, .B d3]) (_c : CapA [.slice A0 d0.length c0, .slice A1 d1.length c1, .slice A2 d2.length c2, .slice A3 d3.length c3]) (z : szA [.I d0, .I d1, .I d2, .B d3] ≤ 1048576) :
    Calls Try.prog 49 #[.agg #[.slice A0 d0.length c0, .slice A1 d1.length c1, .slice A2 d2.length c2, .slice A3 d3.length c3, .int .i64 d4]] w fun e w' => e = .returned (.bool (okMem d0 d1 d2 d3 d4)) ∧ Below w.heap.size w w' := by
  simp only [szA, Lf.sz] at z
  exact specMemOK A0 A1 A2 A3 _ _ _ _ c0 c1 c2 c3 d0 d1 d2 d3 d4 w rfl rfl rfl rfl (by unfold maxLen; omega) (by unfold maxLen; omega) (by unfold maxLen; omega) (by unfold maxLen; omega) (repI h.1) (repI h.2.1) (repI h.2.2.1)
end
section
variable (A0 A1 A2 A3 : Option Addr) (c0 c1 c2 c3 : Nat) (d0 d1 d2 : List Int) (d3 : List Bool) (d4 : Int) (a : Int) (w : World)
end
section
variable (A0 A1 A2 A3 : Option Addr) (c0 c1 c2 c3 : Nat) (d0 d1 d2 : List Int) (d3 : List Bool) (d4 : Int) (a v : Int) (w : World)
end
section
variable (A0 A1 A2 A3 : Option Addr) (c0 c1 c2 c3 : Nat) (d0 d1 d2 : List Int) (d3 : List Bool) (d4 : Int) (B0 B1 B2 B3 : Option Addr) (e0 e1 e2 e3 : Nat) (g0 g1 g2 : List Int) (g3 : List Bool) (g4 : Int) (w : World)
end
end Go.Proofs.Ytagdclbpgkilgaa

/- NewMem on both sides. Written by gen_newmem.py. -/
namespace Go.Proofs.Ytagdclbpgkilgaa
open Go.RowKit

/-- The first j of p, then 255. -/
def progZ (p : List Int) (j : Nat) : List Int := (List.range 256).map fun i => if i < j then p.getD i 0 else 255
theorem progZ_len (p : List Int) (j : Nat) : (progZ p j).length = 256 := by simp [progZ]
theorem progZ_at (p : List Int) (j i : Nat) (h : i < 256) : (progZ p j).getD i 0 = if i < j then p.getD i 0 else 255 := by
  unfold progZ
  rw [List.getD_eq_getElem?_getD, List.getElem?_map, List.getElem?_range h]
  rfl
theorem progZ_zero (p : List Int) : progZ p 0 = newZ := by
  apply ext_getD 0 (by rw [progZ_len, newZ_len])
  intro i hi
  rw [progZ_len] at hi
  rw [progZ_at _ _ _ hi, if_neg (by omega)]
  unfold newZ
  rw [List.getD_eq_getElem?_getD, List.getElem?_replicate, if_pos hi]
  rfl
theorem progZ_next (p : List Int) (j : Nat) (hj : j < 256) : (progZ p j).set j (p.getD j 0) = progZ p (j + 1) := by
  apply ext_getD 0 (by simp [progZ_len])
  intro i hi
  have hi' : i < 256 := by simpa [progZ_len] using hi
  rw [progZ_at _ _ _ hi']
  by_cases e : i = j
  · subst e
    rw [List.getD_eq_getElem?_getD, List.getElem?_set_self (by rw [progZ_len]; exact hj), if_pos (by omega)]
    rfl
  · rw [List.getD_eq_getElem?_getD, List.getElem?_set_ne (fun q => e q.symm), ← List.getD_eq_getElem?_getD, progZ_at _ _ _ hi']
    by_cases q : i < j
    · rw [if_pos q, if_pos (by omega)]
    · rw [if_neg q, if_neg (by omega)]
def zR : List Int := List.replicate 256 0
def zI : List Int := List.replicate 32 0
theorem zR_len : zR.length = 256 := List.length_replicate
theorem zI_len : zI.length = 32 := List.length_replicate
def newCode (p : List Int) : Int := if 4096 < p.length then 2 else if 256 < p.length then 8 else if p.all byB = true then 0 else 4
def newF (p : List Int) : List Int × List Int × List Int × List Bool × Int × Int := if newCode p = 0 then (zR, zI, progZ p p.length, zG, 0, 0) else ([], [], [], [], 0, newCode p)
theorem newCode0 {p : List Int} (h : newCode p = 0) : p.length ≤ 256 ∧ p.all byB = true := by
  unfold newCode at h
  split at h
  · omega
  · split at h
    · omega
    · split at h
      · exact ⟨by omega, by assumption⟩
      · omega
theorem newF_bnd (p : List Int) : lenA [.I (newF p).1, .I (newF p).2.1, .I (newF p).2.2.1, .B (newF p).2.2.2.1] ≤ 4294967296 := by
  unfold newF
  split
  · simp only [lenA, Lf.len, zR_len, zI_len, progZ_len, zG_len]; omega
  · simp [lenA, Lf.len]

/-- Rows of four blocks. -/
theorem ownA4b {w : World} {L R b0 b1 b2 : Nat} {C : Option Addr} {c0 c1 c2 c3 : Nat} {d0 d1 d2 : List Int} {d3 : List Bool} (a : OwnI w L R (some ⟨b0, 0, none⟩) d0) (b : OwnI w L R (some ⟨b1, 0, none⟩) d1) (c : OwnI w L R (some ⟨b2, 0, none⟩) d2) (d : OwnB w L R C d3) (h01 : b0 ≠ b1) (h02 : b0 ≠ b2) (h12 : b1 ≠ b2) :
    OwnA w L R [.slice (some ⟨b0, 0, none⟩) d0.length c0, .slice (some ⟨b1, 0, none⟩) d1.length c1, .slice (some ⟨b2, 0, none⟩) d2.length c2, .slice C d3.length c3] [.I d0, .I d1, .I d2, .B d3] := by
  have blk : ∀ {g n k b : Nat}, blkL (.slice (some ⟨g, 0, none⟩) n k) = some b → b = g := by
    intro g n k b h
    rcases Nat.eq_zero_or_pos n with hz | hz
    · rw [hz, blkL_zero] at h; cases h
    · rw [blkL_some hz] at h; injection h with h; exact h.symm
  have far : ∀ {g : Nat} {dd : List Int} {k kk b : Nat}, OwnI w L R (some ⟨g, 0, none⟩) dd → blkL (.slice (some ⟨g, 0, none⟩) dd.length k) = some b → blkL (.slice C d3.length kk) = some b → False := by
    intro g dd k kk b h h1 h2
    obtain ⟨m, f, hr⟩ := h.rowOf h1
    obtain ⟨m', f', hr'⟩ := d.rowOf h2
    exact row_ne hr hr' (by decide) rfl
  refine OwnA.cons ⟨_, c0, rfl, a⟩ (OwnA.cons ⟨_, c1, rfl, b⟩ (ownIB c d) ?_) ?_
  · intro g hg hm
    obtain ⟨v, hv, he⟩ := List.mem_filterMap.1 hm
    simp only [List.mem_cons, List.not_mem_nil, or_false] at hv
    rcases hv with rfl | rfl
    · exact h12 ((blk hg).symm.trans (blk he))
    · exact far b hg he
  · intro g hg hm
    obtain ⟨v, hv, he⟩ := List.mem_filterMap.1 hm
    simp only [List.mem_cons, List.not_mem_nil, or_false] at hv
    rcases hv with rfl | rfl | rfl
    · exact h01 ((blk hg).symm.trans (blk he))
    · exact h02 ((blk hg).symm.trans (blk he))
    · exact far a hg he
theorem made_own {w : World} {b n L R : Nat} (h : Box w b 3 (madeCells #[.int .i64 0] n)) (hl : L ≤ b) (hr : b < R) : OwnI w L R (some ⟨b, 0, none⟩) (List.replicate n 0) :=
  .inr ⟨b, n, fun _ => .int .i64 0, rfl, hl, hr, by simp, made_row h, fun i hi => by
    rw [List.getD_eq_getElem?_getD, List.getElem?_replicate, if_pos (by simpa using hi)]; rfl⟩
theorem made_size (n : Nat) : (madeCells #[Value.int .i64 0] n).size = n := by simp [madeCells]
theorem made_ne {w : World} {b b1 n m : Nat} (h : Box w b 3 (madeCells #[.int .i64 0] n)) (k : Box w b1 3 (madeCells #[.int .i64 0] m)) (hne : n ≠ m) : b ≠ b1 := by
  rintro rfl
  have q : some (Obj.cells (madeCells #[.int .i64 0] n) 3 (0, 0)) = some (Obj.cells (madeCells #[.int .i64 0] m) 3 (0, 0)) := h.symm.trans k
  injection q with q
  injection q with q
  exact hne (by rw [← made_size n, q, made_size])
theorem ownI_blk {w : World} {L R : Nat} {A : Option Addr} {zs : List Int} (h : OwnI w L R A zs) (hn : 0 < zs.length) : ∃ ba, A = some ⟨ba, 0, none⟩ ∧ L ≤ ba ∧ ba < R ∧ w.cell? ⟨ba, 0, none⟩ = some (.int .i64 (zs.getD 0 0)) := by
  obtain ⟨b, m, f, e, hc, _, h1, h2, _, _⟩ := h.put 0 hn
  exact ⟨b, e, h1, h2, hc⟩
theorem made_row_ne {w : World} {b ba n : Nat} {x : Int} (h : Box w b 3 (madeCells #[.int .i64 0] n)) (hn : 0 < n) (hc : w.cell? ⟨ba, 0, none⟩ = some (.int .i64 x)) (hx : x ≠ 0) : b ≠ ba := by
  rintro rfl
  have := (made_row h).cell hn
  rw [this] at hc
  injection hc with hc
  injection hc with _ hc
  exact hx hc.symm

/-- copy of a row into a row of the call's own: nothing but that block turns. -/
theorem wpList_copy_btw {P : Program} {w : World} {ops : Array Oper} {rest : List Oper} {o : Oper} {a : Act} {Q : Exit → Act → World → Prop} (hgd : o.guard = none) (d s : Operand) (dT sT : TypeId)
    (ho : o.op = .call { callee := .builtin .copy, args := #[d, s], argTypes := #[dT, sT] }) (elem : TypeId) (hu : P.underlying dT = some (.slice elem)) (hsz : (P.info? elem).map (·.size) = some 1)
    (dp sp : Option Addr) (dLen dCap sLen sCap : Nat) (hd : a.eval d = .slice dp dLen dCap) (hs : a.eval s = .slice sp sLen sCap)
    (g off : Nat) (cur : List Value) (t : TypeId) (hg : w.heap[g]? = some (.cells cur.toArray t (0, 0))) (cs : List Value) (hn : cs.length = Nat.min sLen dLen)
    (hpos : 0 < cs.length → dp = some ⟨g, off, none⟩ ∧ ∃ ad, sp = some ad ∧ ∀ j v, cs[j]? = some v → w.cell? (ad.add j) = some v)
    (hfit : off + cs.length ≤ cur.length) (h1 : ∀ v ∈ cs, v.oneCell' = true)
    (h : ∀ w', Hid (w'.heap[g]? = some (.cells (splice cur off cs).toArray t (0, 0))) → Btw g (g + 1) w w' → w'.heap.size = w.heap.size → wpList P ops Q rest (a.put o.dst (goInt cs.length)) w') :
    wpList P ops Q (o :: rest) a w := by
  by_cases h0 : cs.length = 0
  · obtain rfl : cs = [] := List.eq_nil_of_length_eq_zero h0
    refine wpList_copy_nothing hgd d s dT sT ho elem hu hsz dp sp dLen dCap sLen sCap hd hs (by simpa using hn.symm) ?_
    exact h w (show _ = _ by simpa [splice] using hg) (Btw.refl _ _ _) rfl
  · obtain ⟨rfl, ad, rfl, hsrc⟩ := hpos (by omega)
    refine wpList_copy_own hgd d s dT sT ho elem hu hsz g off dLen dCap ad sLen sCap hd hs cur.toArray t hg cs hn hsrc (by simpa using hfit) h1 ?_
    exact h _ (show _ = _ by simpa [splice] using setRow_heap w g _ _ t _ hg) ⟨rfl, rfl, rfl, by simp [World.setRow], fun k _ hk => setRow_other w g k _ (by omega)⟩ (by simp [World.setRow])
theorem ownI_spliced {w w' : World} {L R b : Nat} {zs p : List Int} {m : Nat} {f : Nat → Value} {cur : List Value} (hr : w.rowIs b 3 m f) (hcur : w.heap[b]? = some (.cells cur.toArray 3 (0, 0))) (hm : zs.length ≤ m) (hf : ∀ i, i < zs.length → f i = .int .i64 (zs.getD i 0)) (hp : p.length ≤ zs.length) (hl : L ≤ b) (hR : b < R)
    (h : w'.heap[b]? = some (.cells (splice cur 0 (cellsI p)).toArray 3 (0, 0))) (qs : List Int) (hq : qs.length = zs.length) (hqi : ∀ i, i < qs.length → qs.getD i 0 = if i < p.length then p.getD i 0 else zs.getD i 0) : OwnI w' L R (some ⟨b, 0, none⟩) qs := by
  obtain ⟨cs, hc, hs, hi⟩ := hr
  have e : cs = cur.toArray := by
    have := hc.symm.trans hcur
    injection this with this
    injection this
  subst e
  have hcl : cur.length = m := by simpa using hs
  have hsl : (splice cur 0 (cellsI p)).length = m := by rw [length_splice _ _ _ (by rw [cellsI_len]; omega)]; exact hcl
  refine .inr ⟨b, m, fun i => (splice cur 0 (cellsI p)).getD i undef, rfl, hl, hR, by omega, ⟨_, h, by simpa using hsl, fun i hi' => ?_⟩, fun i hi' => ?_⟩
  · show _ = some ((splice cur 0 (cellsI p)).getD i undef)
    rw [List.getElem?_toArray, List.getD_eq_getElem?_getD, List.getElem?_eq_getElem (by omega)]; rfl
  · show (splice cur 0 (cellsI p)).getD i undef = _
    rw [hqi i hi', List.getD_eq_getElem?_getD]
    unfold splice
    rw [List.take_zero, List.nil_append, Nat.zero_add]
    by_cases q : i < p.length
    · rw [if_pos q, List.getElem?_append_left (by rw [cellsI_len]; exact q)]
      unfold cellsI
      rw [List.getElem?_map, List.getD_eq_getElem?_getD, List.getElem?_eq_getElem q]
      rfl
    · rw [if_neg q, List.getElem?_append_right (by rw [cellsI_len]; omega), List.getElem?_drop, cellsI_len, show p.length + (i - p.length) = i by omega]
      have := hi i (by omega)
      rw [List.getElem?_toArray] at this
      rw [this, ← hf i (by omega)]
      rfl
set_option maxRecDepth 100000 in
theorem szInt : (Try.prog.info? 3).map (·.size) = some 1 := by kernel_rfl
theorem arr21n (T : Array Value) (h : T.size = 21) : ∃ t0 t1 t2 t3 t4 t5 t6 t7 t8 t9 t10 t11 t12 t13 t14 t15 t16 t17 t18 t19 t20 : Value, T = #[t0, t1, t2, t3, t4, t5, t6, t7, t8, t9, t10, t11, t12, t13, t14, t15, t16, t17, t18, t19, t20] := by
  obtain ⟨l⟩ := T
  match l, h with
  | [t0, t1, t2, t3, t4, t5, t6, t7, t8, t9, t10, t11, t12, t13, t14, t15, t16, t17, t18, t19, t20], _ => exact ⟨t0, t1, t2, t3, t4, t5, t6, t7, t8, t9, t10, t11, t12, t13, t14, t15, t16, t17, t18, t19, t20, rfl⟩

def newiF (M S : Nat) (fl : Value) (s2 s3 : Value) : Nat → (Nat → Value) → World → Prop
  | 0, t, w => ∃ b, t 17 = .slice (some ⟨b, 0, none⟩) 256 256 ∧ Box w b 3 (madeCells #[.int .i64 0] 256) ∧ S ≤ b
  | 1, t, w => ∃ b, t 18 = .slice (some ⟨b, 0, none⟩) 32 32 ∧ Box w b 3 (madeCells #[.int .i64 0] 32) ∧ S ≤ b
  | 2, t, _ => t 19 = fl
  | 3, t, _ => ∃ b b1, t 17 = .slice (some ⟨b, 0, none⟩) 256 256 ∧ t 18 = .slice (some ⟨b1, 0, none⟩) 32 32 ∧ t 20 = .agg #[.slice (some ⟨b, 0, none⟩) 256 256, .slice (some ⟨b1, 0, none⟩) 32 32, s2, s3, .int .i64 0]
  | 4, t, w => ∃ b b1, t 17 = .slice (some ⟨b, 0, none⟩) 256 256 ∧ t 18 = .slice (some ⟨b1, 0, none⟩) 32 32 ∧ Box w M 28 #[.slice (some ⟨b, 0, none⟩) 256 256, .slice (some ⟨b1, 0, none⟩) 32 32, s2, s3, .int .i64 0]
  | 5, t, _ => t 3 = .int .i64 0
  | _, _, _ => True
section
variable {M S : Nat} {fl s2 s3 : Value} {w w' : World}
theorem newiF_below (k : Below w.heap.size w w') : ∀ (j : Nat) (t : Nat → Value), newiF M S fl s2 s3 j t w → newiF M S fl s2 s3 j t w'
  | 2, _, h | 3, _, h | 5, _, h => h
  | 0, _, ⟨b, e, h, q⟩ => ⟨b, e, h.step k, q⟩
  | 1, _, ⟨b, e, h, q⟩ => ⟨b, e, h.step k, q⟩
  | 4, _, ⟨b, b1, e, e2, h⟩ => ⟨b, b1, e, e2, h.step k⟩
  | _ + 6, _, _ => trivial
theorem newiF_store {ys : Array Value} (Y : Box w M 28 ys) (i : Nat) (u : Value) : ∀ (j : Nat) (t : Nat → Value), j ≠ 4 → newiF M S fl s2 s3 j t w → newiF M S fl s2 s3 j t (w.setCell ⟨M, i, none⟩ u)
  | 2, _, _, h | 3, _, _, h | 5, _, _, h => h
  | 0, _, _, ⟨b, e, h, q⟩ => ⟨b, e, h.far (p := ⟨M, i, none⟩) (h.box_ne Y (by decide)) u, q⟩
  | 1, _, _, ⟨b, e, h, q⟩ => ⟨b, e, h.far (p := ⟨M, i, none⟩) (h.box_ne Y (by decide)) u, q⟩
  | 4, _, n, _ => (n rfl).elim
  | _ + 6, _, _, _ => trivial
end
def RN (W3 : World) (m : Nat) (W : World) : Prop := Btw m (m + 1) W3 W ∧ ∃ cs : Array Value, cs.size = 5 ∧ Box W m 28 cs
theorem RN.alloc {W3 W : World} {m : Nat} (h : RN W3 m W) (o : Obj) : RN W3 m (W.alloc o) := by
  obtain ⟨a, cs, hs, b⟩ := h
  exact ⟨a.alloc o, cs, hs, b.alloc o⟩
theorem RN.set {W3 W : World} {m : Nat} (h : RN W3 m W) (j : Nat) (v : Value) : RN W3 m (W.setCell ⟨m, j, none⟩ v) := by
  obtain ⟨a, cs, hs, b⟩ := h
  exact ⟨a.setCell (p := ⟨m, j, none⟩) (Nat.le_refl _) (Nat.lt_succ_self _) v, _, by simpa using hs, b.set j v⟩
theorem OwnI.awayM {w w' : World} {lo hi b : Nat} {A : Option Addr} {zs : List Int} {cs : Array Value} (h : OwnI w lo hi A zs) (X : Box w b 28 cs) (hb : Btw b (b + 1) w w') : OwnI w' lo hi A zs := h.awayB X (by decide) hb
theorem OwnB.awayM {w w' : World} {lo hi b : Nat} {A : Option Addr} {gs : List Bool} {cs : Array Value} (h : OwnB w lo hi A gs) (X : Box w b 28 cs) (hb : Btw b (b + 1) w w') : OwnB w' lo hi A gs := by
  rcases h with e | ⟨g, m, f, e, h1, h2, hm, hr, hf⟩
  · exact .inl e
  · exact .inr ⟨g, m, f, e, h1, h2, hm, hb.row hr (by have := X.ne hr (by decide); omega), hf⟩

end Go.Proofs.Ytagdclbpgkilgaa

/- The model's l05New and NewMem; NewMem on leaves. Written by gen_newmems.py. -/
namespace Go.Proofs.Ytagdclbpgkilgaa
open Go.RowKit

theorem arr25 (T : Array Value) (h : T.size = 25) : ∃ t0 t1 t2 t3 t4 t5 t6 t7 t8 t9 t10 t11 t12 t13 t14 t15 t16 t17 t18 t19 t20 t21 t22 t23 t24 : Value, T = #[t0, t1, t2, t3, t4, t5, t6, t7, t8, t9, t10, t11, t12, t13, t14, t15, t16, t17, t18, t19, t20, t21, t22, t23, t24] := by
  obtain ⟨l⟩ := T
  match l, h with
  | [t0, t1, t2, t3, t4, t5, t6, t7, t8, t9, t10, t11, t12, t13, t14, t15, t16, t17, t18, t19, t20, t21, t22, t23, t24], _ => exact ⟨t0, t1, t2, t3, t4, t5, t6, t7, t8, t9, t10, t11, t12, t13, t14, t15, t16, t17, t18, t19, t20, t21, t22, t23, t24, rfl⟩

theorem setCell_self {w : World} {p : Addr} {u v : Value} (h : w.cell? p = some u) : ∃ x, (w.setCell p v).cell? p = some x := by
  exact ⟨_, World.cell?_setCell_same' w p v (by rw [h]; rfl)⟩
theorem frozen_setCell (w : World) (p q : Addr) (v : Value) : (w.setCell p v).frozen? q = w.frozen? q := by simp
def newsF (S : Nat) : Nat → (Nat → Value) → World → Prop
  | 0, t, w => ∃ b, t 5 = .slice (some ⟨b, 0, none⟩) 256 256 ∧ Box w b 3 (madeCells #[.int .i64 0] 256) ∧ S ≤ b
  | 1, t, w => ∃ b, t 6 = .slice (some ⟨b, 0, none⟩) 32 32 ∧ Box w b 3 (madeCells #[.int .i64 0] 32) ∧ S ≤ b
  | 2, t, w => ∃ A c C d, t 7 = .agg #[.slice A 256 c, .slice C 16 d, .int .i64 0] ∧ OwnI w S w.heap.size A newZ ∧ OwnB w S w.heap.size C zG
  | 3, t, _ => ∃ b b1 A c C d, t 5 = .slice (some ⟨b, 0, none⟩) 256 256 ∧ t 6 = .slice (some ⟨b1, 0, none⟩) 32 32 ∧ t 7 = .agg #[.slice A 256 c, .slice C 16 d, .int .i64 0] ∧ t 8 = .agg #[.slice (some ⟨b, 0, none⟩) 256 256, .slice (some ⟨b1, 0, none⟩) 32 32, .slice A 256 c, .slice C 16 d, .int .i64 0]
  | 4, t, w => ∃ bm, t 3 = .pointer (some ⟨bm, 0, none⟩) ∧ S ≤ bm ∧ ∃ cs : Array Value, cs.size = 5 ∧ Box w bm 28 cs
  | 5, t, w => ∃ b b1 A c C d bm, t 5 = .slice (some ⟨b, 0, none⟩) 256 256 ∧ t 6 = .slice (some ⟨b1, 0, none⟩) 32 32 ∧ t 7 = .agg #[.slice A 256 c, .slice C 16 d, .int .i64 0] ∧ t 3 = .pointer (some ⟨bm, 0, none⟩) ∧ Box w bm 28 #[.slice (some ⟨b, 0, none⟩) 256 256, .slice (some ⟨b1, 0, none⟩) 32 32, .slice A 256 c, .slice C 16 d, .int .i64 0]
  | _, _, _ => True
section
variable {S : Nat} {w w' : World}
theorem newsF_below (k : Below w.heap.size w w') : ∀ (j : Nat) (t : Nat → Value), newsF S j t w → newsF S j t w'
  | 3, _, h => h
  | 0, _, ⟨b, e, h, q⟩ => ⟨b, e, h.step k, q⟩
  | 1, _, ⟨b, e, h, q⟩ => ⟨b, e, h.step k, q⟩
  | 2, _, ⟨A, c, C, d, e, h, g⟩ => ⟨A, c, C, d, e, (h.below k).wideB (Nat.le_refl _) k.size, (g.below k).wide (Nat.le_refl _) k.size⟩
  | 4, _, ⟨bm, e, q, cs, hs, h⟩ => ⟨bm, e, q, cs, hs, h.step k⟩
  | 5, _, ⟨b, b1, A, c, C, d, bm, e1, e2, e3, e4, h⟩ => ⟨b, b1, A, c, C, d, bm, e1, e2, e3, e4, h.step k⟩
  | _ + 6, _, _ => trivial
theorem newsF_store {bm : Nat} {ys : Array Value} (Y : Box w bm 28 ys) (i : Nat) (u : Value) : ∀ (j : Nat) (t : Nat → Value), j ≠ 5 → newsF S j t w → newsF S j t (w.setCell ⟨bm, i, none⟩ u)
  | 3, _, _, h => h
  | 0, _, _, ⟨b, e, h, q⟩ => ⟨b, e, h.far (p := ⟨bm, i, none⟩) (h.box_ne Y (by decide)) u, q⟩
  | 1, _, _, ⟨b, e, h, q⟩ => ⟨b, e, h.far (p := ⟨bm, i, none⟩) (h.box_ne Y (by decide)) u, q⟩
  | 2, _, _, ⟨A, c, C, d, e, h, g⟩ => ⟨A, c, C, d, e, (h.farB Y (by decide) i u).wideB (Nat.le_refl _) (by simp [World.setCell]), (g.far Y (by decide) i u).wide (Nat.le_refl _) (by simp [World.setCell])⟩
  | 4, _, _, ⟨b, e, q, cs, hs, h⟩ => by
    by_cases hb : b = bm
    · subst hb; exact ⟨b, e, q, _, by simpa using hs, h.set i u⟩
    · exact ⟨b, e, q, cs, hs, h.far (p := ⟨bm, i, none⟩) hb u⟩
  | 5, _, n, _ => (n rfl).elim
  | _ + 6, _, _, _ => trivial
end
/-- The new memory while the program is written into its flash. -/
structure NewAt (S hi b b1 ba bm c : Nat) (C : Option Addr) (d : Nat) (p : List Int) (j : Nat) (w : World) : Prop where
  B0 : Box w b 3 (madeCells #[.int .i64 0] 256)
  B1 : Box w b1 3 (madeCells #[.int .i64 0] 32)
  A : OwnI w S hi (some ⟨ba, 0, none⟩) (progZ p j)
  G : OwnB w S hi C zG
  M : Box w bm 28 #[.slice (some ⟨b, 0, none⟩) 256 256, .slice (some ⟨b1, 0, none⟩) 32 32, .slice (some ⟨ba, 0, none⟩) 256 c, .slice C 16 d, .int .i64 0]
  q0 : S ≤ b
  q1 : S ≤ b1
  qm : S ≤ bm
  r0 : b < hi
  r1 : b1 < hi
theorem NewAt.drew {S hi b b1 ba bm c : Nat} {C : Option Addr} {d : Nat} {p : List Int} {j : Nat} {w : World} (h : NewAt S hi b b1 ba bm c C d p j w) : NewAt S hi b b1 ba bm c C d p j w.drew := ⟨h.B0, h.B1, h.A, h.G, h.M, h.q0, h.q1, h.qm, h.r0, h.r1⟩
theorem NewAt.next {S hi b b1 ba bm c : Nat} {C : Option Addr} {d : Nat} {p : List Int} {w : World} (j : Nat) (h : NewAt S hi b b1 ba bm c C d p j w) (hj : j < 256) (h0 : b ≠ ba) (h1 : b1 ≠ ba) {m : Nat} {f : Nat → Value} (hr : w.rowIs ba 3 m f) (hput : ∀ x, OwnI (w.setCell ⟨ba, j, none⟩ (.int .i64 x)) S hi (some ⟨ba, 0, none⟩) ((progZ p j).set j x)) : NewAt S hi b b1 ba bm c C d p (j + 1) (w.setCell ⟨ba, j, none⟩ (.int .i64 (p.getD j 0))) :=
  ⟨h.B0.far (p := ⟨ba, j, none⟩) h0 _, h.B1.far (p := ⟨ba, j, none⟩) h1 _, by have := hput (p.getD j 0); rwa [progZ_next p j hj] at this, h.G.other hr (by decide) j _, h.M.other hr (by decide) j _, h.q0, h.q1, h.qm, h.r0, h.r1⟩

set_option maxRecDepth 100000 in
set_option maxHeartbeats 8000000 in
theorem l05New (A0 : Option Addr) (n c0 : Nat) (p : List Int) (w : World) (hl : p.length = n) (hn : n ≤ 256) (h : IntL w A0 p) :
    Calls Try.prog 66 #[.slice A0 n c0] w (GivesMem zR zI (progZ p p.length) zG 0 w) := by
  obtain ⟨W0, hW0⟩ : ∃ W0, W0 = (w.alloc (.cells #[.slice none 0 0, .slice none 0 0, .slice none 0 0, .slice none 0 0, .int .i64 0] 28)) := ⟨_, rfl⟩
  have hb0 : Below w.heap.size w W0 := by rw [hW0]; exact alloc_below _ _
  have Y0 : Hid (Box W0 w.heap.size 28 #[.slice none 0 0, .slice none 0 0, .slice none 0 0, .slice none 0 0, .int .i64 0]) := Lib.hid (by rw [hW0]; exact Box.new _ _ _)
  have HN := Lib.hid (fun W => specNewFlash W)
  have H := Lib.hid (And.intro hl h)
  have HPb : Hid (∀ ad : Addr, A0 = some ad → ∀ j, j < p.length → ad.block < w.heap.size) := Lib.hid (fun ad e j hj => by
    obtain ⟨b, off, e2, hc⟩ := h j hj
    rw [e] at e2
    injection e2 with e2
    rw [e2]
    exact cell_lt (p := ⟨b, off + j, none⟩) hc)
  have HW0 := Lib.hid hW0
  have R0 : Below W0.heap.size W0 W0.drew := (Below.refl _ _).drew
  have hmk0 : ∀ W : World, (Instr.makeSlice 23 (.int .i64 256) (.int .i64 256)).run Try.prog W = .ok (.slice (some ⟨W.heap.size, 0, none⟩) 256 256) (W.alloc (.cells (madeCells #[.int .i64 0] 256) 3)) := fun W => run_make_row' (P := Try.prog) 23 3 (.int .i64 0) 8 Try.underlying23 infoI rfl .i64 .i64 256 (by omega) (by omega) W
  have hmk1 : ∀ W : World, (Instr.makeSlice 23 (.int .i64 32) (.int .i64 32)).run Try.prog W = .ok (.slice (some ⟨W.heap.size, 0, none⟩) 32 32) (W.alloc (.cells (madeCells #[.int .i64 0] 32) 3)) := fun W => run_make_row' (P := Try.prog) 23 3 (.int .i64 0) 8 Try.underlying23 infoI rfl .i64 .i64 32 (by omega) (by omega) W
  clear hl h hW0
  go_enter Try.func66, Try.ntmps66
  go_wp2
  rw [← HW0.out]
  refine wp_region_facts (by kernel_rfl) [[5], [6], [7], [5, 6, 7, 8], [3], [5, 6, 7, 3]] [[], [], [], [0, 1, 2], [], [0, 1, 2, 3, 4]] [0, 2] (by kernel_rfl) (Below W0.heap.size W0) (newsF W0.heap.size) R0 ?_ ?_
  · refine ⟨?_, ?_, ?_, ?_, ?_, ?_, trivial⟩
    · intro T W hT hs hC hF K hK
      obtain ⟨t0, t1, t2, t3, t4, t5, t6, t7, t8, t9, t10, t11, t12, t13, t14, t15, t16, t17, t18, t19, t20, t21, t22, t23, t24, rfl⟩ := arr25 T hT
      obtain rfl : t0 = .slice A0 n c0 := hs 0 (by decide)
      obtain rfl : t2 = .pointer (some ⟨w.heap.size, 0, none⟩) := hs 2 (by decide)
      clear hF hs hT
      have k := alloc_below W (.cells (madeCells #[.int .i64 0] 256) 3)
      have hm := hmk0 W
      go_simp
      exact hK.out _ _ (bt hC (alloc_below _ _)) (fun j t _ h => newsF_below k j t h) ⟨W.heap.size, rfl, Box.new _ _ _, hC.size⟩
    · intro T W hT hs hC hF K hK
      obtain ⟨t0, t1, t2, t3, t4, t5, t6, t7, t8, t9, t10, t11, t12, t13, t14, t15, t16, t17, t18, t19, t20, t21, t22, t23, t24, rfl⟩ := arr25 T hT
      obtain rfl : t0 = .slice A0 n c0 := hs 0 (by decide)
      obtain rfl : t2 = .pointer (some ⟨w.heap.size, 0, none⟩) := hs 2 (by decide)
      clear hF hs hT
      have k := alloc_below W (.cells (madeCells #[.int .i64 0] 32) 3)
      have hm := hmk1 W
      go_simp
      exact hK.out _ _ (bt hC (alloc_below _ _)) (fun j t _ h => newsF_below k j t h) ⟨W.heap.size, rfl, Box.new _ _ _, hC.size⟩
    · intro T W hT hs hC hF K hK
      obtain ⟨t0, t1, t2, t3, t4, t5, t6, t7, t8, t9, t10, t11, t12, t13, t14, t15, t16, t17, t18, t19, t20, t21, t22, t23, t24, rfl⟩ := arr25 T hT
      obtain rfl : t0 = .slice A0 n c0 := hs 0 (by decide)
      obtain rfl : t2 = .pointer (some ⟨w.heap.size, 0, none⟩) := hs 2 (by decide)
      clear hF hs hT
      go_simp
      refine (HN.out W).mono ?_
      rintro e w1 ⟨A, n1, c, C, m1, d, rfl, L1, M1, S1, R1, k⟩
      obtain rfl : n1 = 256 := by have := L1.out; have := newZ_len; omega
      obtain rfl : m1 = 16 := by have := M1.out; have := zG_len; omega
      exact hK.out _ w1 (bt hC k) (fun j t _ h => newsF_below k j t h) ⟨A, c, C, d, rfl, S1.out.wideB hC.size (Nat.le_refl _), R1.out.wide hC.size (Nat.le_refl _)⟩
    · intro T W hT hs hC hF K hK
      obtain ⟨t0, t1, t2, t3, t4, t5, t6, t7, t8, t9, t10, t11, t12, t13, t14, t15, t16, t17, t18, t19, t20, t21, t22, t23, t24, rfl⟩ := arr25 T hT
      obtain rfl : t0 = .slice A0 n c0 := hs 0 (by decide)
      obtain rfl : t2 = .pointer (some ⟨w.heap.size, 0, none⟩) := hs 2 (by decide)
      have f0 := hF 0 (by decide)
      simp only [newsF, mask] at f0
      have f1 := hF 1 (by decide)
      simp only [newsF, mask] at f1
      have f2 := hF 2 (by decide)
      simp only [newsF, mask] at f2
      clear hF hs hT
      obtain ⟨b, e5, B0, q0⟩ := f0
      obtain ⟨b1, e6, B1, q1⟩ := f1
      obtain ⟨A, c, C, d, e7, S, Q⟩ := f2
      subst e5 e6 e7
      clear B0 B1 S Q
      go_simp
      exact hK.out _ W hC (fun _ _ _ h => h) ⟨b, b1, A, c, C, d, rfl, rfl, rfl, rfl⟩
    · intro T W hT hs hC hF K hK
      obtain ⟨t0, t1, t2, t3, t4, t5, t6, t7, t8, t9, t10, t11, t12, t13, t14, t15, t16, t17, t18, t19, t20, t21, t22, t23, t24, rfl⟩ := arr25 T hT
      obtain rfl : t0 = .slice A0 n c0 := hs 0 (by decide)
      obtain rfl : t2 = .pointer (some ⟨w.heap.size, 0, none⟩) := hs 2 (by decide)
      clear hF hs hT
      have k := alloc_below W (.cells #[.slice none 0 0, .slice none 0 0, .slice none 0 0, .slice none 0 0, .int .i64 0] 28)
      go_simp
      exact hK.out _ _ (bt hC (alloc_below _ _)) (fun j t _ h => newsF_below k j t h) ⟨W.heap.size, rfl, hC.size, _, rfl, Box.new _ _ _⟩
    · intro T W hT hs hC hF K hK
      obtain ⟨t0, t1, t2, t3, t4, t5, t6, t7, t8, t9, t10, t11, t12, t13, t14, t15, t16, t17, t18, t19, t20, t21, t22, t23, t24, rfl⟩ := arr25 T hT
      obtain rfl : t0 = .slice A0 n c0 := hs 0 (by decide)
      obtain rfl : t2 = .pointer (some ⟨w.heap.size, 0, none⟩) := hs 2 (by decide)
      have f3 := hF 3 (by decide)
      simp only [newsF, mask] at f3
      have f4 := hF 4 (by decide)
      simp only [newsF, mask] at f4
      clear hF hs hT
      obtain ⟨b, b1, A, c, C, d, e5, e6, e7, e8⟩ := f3
      obtain ⟨bm, e3, q, ys, hys, Y⟩ := f4
      subst e5 e6 e7 e8 e3
      have y0 := YV5.of Y hys 0 (by omega)
      have y1 := YV5.of Y hys 1 (by omega)
      have y2 := YV5.of Y hys 2 (by omega)
      have y3 := YV5.of Y hys 3 (by omega)
      have y4 := YV5.of Y hys 4 (by omega)
      have z0 := Y.frozen 0
      have z1 := Y.frozen 1
      have z2 := Y.frozen 2
      have z3 := Y.frozen 3
      have z4 := Y.frozen 4
      have HYs := Lib.hid (And.intro hys Y)
      clear hys Y
      go_simp
      exact hK.out undef _ (below5 hC q _ _ _ _ _) (fun j t n h => newsF_store ((((HYs.out.2.set 0 _).set 1 _).set 2 _).set 3 _) 4 _ j t n (newsF_store (((HYs.out.2.set 0 _).set 1 _).set 2 _) 3 _ j t n (newsF_store ((HYs.out.2.set 0 _).set 1 _) 2 _ j t n (newsF_store (HYs.out.2.set 0 _) 1 _ j t n (newsF_store HYs.out.2 0 _ j t n h))))) ⟨b, b1, A, c, C, d, bm, rfl, rfl, rfl, rfl, HYs.out.2.all5 HYs.out.1 _ _ _ _ _⟩
  · intro T W hT hs hC hF
    obtain ⟨t0, t1, t2, t3, t4, t5, t6, t7, t8, t9, t10, t11, t12, t13, t14, t15, t16, t17, t18, t19, t20, t21, t22, t23, t24, rfl⟩ := arr25 T hT
    obtain rfl : t0 = .slice A0 n c0 := hs 0 (by decide)
    obtain rfl : t2 = .pointer (some ⟨w.heap.size, 0, none⟩) := hs 2 (by decide)
    obtain ⟨b, e5, B0, q0⟩ := hF 0 (by decide)
    obtain ⟨b1, e6, B1, q1⟩ := hF 1 (by decide)
    obtain ⟨A, c, C, d, e7, SA, SC⟩ := hF 2 (by decide)
    obtain ⟨bm, e3, qm, ys, hys, Ym⟩ := hF 4 (by decide)
    obtain ⟨b', b1', A', c', C', d', bm', f5, f6, f7, f3, Y⟩ := hF 5 (by decide)
    have E1 : Value.slice (some ⟨b, 0, none⟩) 256 256 = .slice (some ⟨b', 0, none⟩) 256 256 := (show t5 = _ from e5).symm.trans f5
    have E2 : Value.slice (some ⟨b1, 0, none⟩) 32 32 = .slice (some ⟨b1', 0, none⟩) 32 32 := (show t6 = _ from e6).symm.trans f6
    have E3 : Value.agg #[.slice A 256 c, .slice C 16 d, .int .i64 0] = .agg #[.slice A' 256 c', .slice C' 16 d', .int .i64 0] := (show t7 = _ from e7).symm.trans f7
    have E4 : Value.pointer (some ⟨bm, 0, none⟩) = .pointer (some ⟨bm', 0, none⟩) := (show t3 = _ from e3).symm.trans f3
    obtain rfl : b = b' := by injection E1 with E1; injection E1 with E1; injection E1
    obtain rfl : b1 = b1' := by injection E2 with E2; injection E2 with E2; injection E2
    obtain rfl : bm = bm' := by injection E4 with E4; injection E4 with E4; injection E4
    simp only [Value.agg.injEq, Array.mk.injEq, List.cons.injEq, Value.slice.injEq, true_and, and_true] at E3
    obtain ⟨⟨x1, x2⟩, x3, x4⟩ := E3
    subst x1 x2 x3 x4
    obtain rfl : t3 = .pointer (some ⟨bm, 0, none⟩) := e3
    obtain ⟨ba, rfl, hba1, hba2, hbc⟩ := ownI_blk SA (by rw [newZ_len]; omega)
    have HNe : Hid (b ≠ b1 ∧ b ≠ ba ∧ b1 ≠ ba) := Lib.hid ⟨made_ne B0 B1 (by omega), made_row_ne B0 (by omega) hbc (by unfold newZ; decide), made_row_ne B1 (by omega) hbc (by unfold newZ; decide)⟩
    have HSt : Hid (NewAt W0.heap.size W.heap.size b b1 ba bm c C d p 0 W) := Lib.hid ⟨B0, B1, by rw [progZ_zero]; exact SA, SC, Y, q0, q1, qm, B0.lt, B1.lt⟩
    have HY0 : Hid (Box W w.heap.size 28 #[.slice none 0 0, .slice none 0 0, .slice none 0 0, .slice none 0 0, .int .i64 0]) := Lib.hid (Y0.out.step hC)
    have hbW := bt hb0 hC
    have HSz : Hid (W0.heap.size ≤ W.heap.size) := Lib.hid hC.size
    clear e5 e6 e7 f5 f6 f7 f3 E1 E2 E4 B0 B1 SA SC Ym Y hF hs hT hC hbc hys hba1 hba2 qm q0 q1 R0
    go_wp2
    go_loopw [4] (fun i wr => ∃ j : Nat, j ≤ n ∧ i = .int .i64 j ∧ Below w.heap.size w wr ∧ Hid (NewAt W0.heap.size W.heap.size b b1 ba bm c C d p j wr) ∧ Hid (Box wr w.heap.size 28 #[.slice none 0 0, .slice none 0 0, .slice none 0 0, .slice none 0 0, .int .i64 0]) ∧ Hid (wr.heap.size = W.heap.size)) (fun i _ => n - (intOf i).toNat)
    case atStart => exact ⟨0, by omega, rfl, hbW, HSt, HY0, Lib.hid rfl⟩
    case round =>
      clear HSt HY0 hbW
      obtain ⟨j, hj, rfl, hbw, X, Y, Z⟩ := hrel
      by_cases hlt : j < n
      · obtain ⟨pb, off, rfl, hc⟩ := (H.out.2.below hbw) j (by rw [H.out.1]; exact hlt)
        obtain ⟨ba', m, f, ea, hca, hfa, h1, h2, hra, hput⟩ := X.out.A.put j (by rw [progZ_len]; omega)
        obtain rfl : ba = ba' := by injection ea with ea; injection ea
        have HNx : Hid (NewAt W0.heap.size W.heap.size b b1 ba bm c C d p (j + 1) (wr.setCell ⟨ba, j, none⟩ (.int .i64 (p.getD j 0)))) := Lib.hid (X.out.next j (by omega) HNe.out.2.1 HNe.out.2.2 hra hput)
        have HY2 := Lib.hid (Y.out.other hra (by decide) j (.int .i64 (p.getD j 0)))
        have hb2 : Below w.heap.size w (wr.setCell ⟨ba, j, none⟩ (.int .i64 (p.getD j 0))) := hbw.setCell (p := ⟨ba, j, none⟩) (by show w.heap.size ≤ ba; have := hb0.size; omega) _
        have HPc : Hid (∀ x : Int, (wr.setCell ⟨ba, j, none⟩ (.int .i64 x)).cell? ⟨pb, off + j, none⟩ = wr.cell? ⟨pb, off + j, none⟩) := Lib.hid (fun x => World.cell?_setCell_far wr ⟨ba, j, none⟩ ⟨pb, off + j, none⟩ _ (fun q => by
          have q1 : pb < w.heap.size := HPb.out _ rfl j (by rw [H.out.1]; exact hlt)
          have q2 : ba = pb := q
          have := hb0.size
          omega))
        generalize (progZ p j).getD j 0 = y at hca
        generalize hx : p.getD j 0 = x at hc HNx HY2 hb2
        have hi : (j : Int) < (n : Int) := by omega
        have hi2 : (j : Int) < 256 := by omega
        have HM2 : Hid (wr.cell? ⟨bm, 2, none⟩ = some (.slice (some ⟨ba, 0, none⟩) 256 c) ∧ (wr.setCell ⟨ba, j, none⟩ (.int .i64 x)).cell? ⟨bm, 2, none⟩ = some (.slice (some ⟨ba, 0, none⟩) 256 c)) := Lib.hid ⟨X.out.M.cell 2 rfl, HNx.out.M.cell 2 rfl⟩
        have HK : Hid (∀ W', (W' = wr.drew ∨ W' = (wr.setCell ⟨ba, j, none⟩ (.int .i64 x)).drew) → W'.cell? ⟨bm, 2, none⟩ = some (.slice (some ⟨ba, 0, none⟩) 256 c) ∧ W'.cell? ⟨pb, off + j, none⟩ = some (.int .i64 x) ∧ W'.cell? ⟨ba, j, none⟩ = some (YV5 ba W' j) ∧ W'.frozen? ⟨ba, j, none⟩ = false) := Lib.hid (by
          rintro W' (rfl | rfl)
          · exact ⟨HM2.out.1, hc, by unfold YV5; show wr.cell? _ = some ((wr.cell? _).getD undef); rw [hca]; rfl, hfa⟩
          · refine ⟨HM2.out.2, (HPc.out x).trans hc, ?_, ?_⟩
            · obtain ⟨u, hu⟩ := setCell_self (v := .int .i64 x) hca
              unfold YV5; show (wr.setCell _ _).cell? _ = some (((wr.setCell _ _).cell? _).getD undef); rw [hu]; rfl
            · exact (frozen_setCell _ _ _ _).trans hfa)
        have HX := Lib.hid hx
        clear hx hput hra X Y ea h1 h2 hbw hca hfa hc
        go_wp2
    
        go_region_held3 (fun W' => W'.cell? ⟨bm, 2, none⟩ = some (.slice (some ⟨ba, 0, none⟩) 256 c) ∧ W'.cell? ⟨pb, off + j, none⟩ = some (.int .i64 x) ∧ W'.cell? ⟨ba, j, none⟩ = some (YV5 ba W' j) ∧ W'.frozen? ⟨ba, j, none⟩ = false)
          (first | exact HK.out _ (.inl rfl) | exact HK.out _ (.inr rfl))
          (fail)
        all_goals (
          go_wp2
          go_roundw
          case rel => exact ⟨j + 1, by omega, by go_num, hb2.drew, Lib.hid HNx.out.drew, Lib.hid HY2.out, Lib.hid (by have := Z.out; simpa [World.setCell, World.drew] using this)⟩
          case measure => simp [intOf]; omega)
      · obtain rfl : j = n := by omega
        have m0 := X.out.M.cell 0 rfl
        have m1 := X.out.M.cell 1 rfl
        have m2 := X.out.M.cell 2 rfl
        have m3 := X.out.M.cell 3 rfl
        have m4 := X.out.M.cell 4 rfl
        have s0 := Y.out.cell 0 rfl
        have s1 := Y.out.cell 1 rfl
        have s2 := Y.out.cell 2 rfl
        have s3 := Y.out.cell 3 rfl
        have s4 := Y.out.cell 4 rfl
        have s0z := Y.out.frozen 0
        have s1z := Y.out.frozen 1
        have s2z := Y.out.frozen 2
        have s3z := Y.out.frozen 3
        have s4z := Y.out.frozen 4
        have HR : Hid (OwnA wr w.heap.size wr.heap.size [.slice (some ⟨b, 0, none⟩) 256 256, .slice (some ⟨b1, 0, none⟩) 32 32, .slice (some ⟨ba, 0, none⟩) 256 c, .slice C 16 d] [.I zR, .I zI, .I (progZ p j), .B zG]) := Lib.hid (by
          have q := hb0.size
          have z := Z.out
          have x := X.out
          have := ownA4b (c0 := 256) (c1 := 32) (c2 := c) (c3 := d) (made_own (L := w.heap.size) (R := wr.heap.size) x.B0 (Nat.le_trans q x.q0) x.B0.lt) (made_own (L := w.heap.size) (R := wr.heap.size) x.B1 (Nat.le_trans q x.q1) x.B1.lt) (x.A.wideB q (by omega)) (x.G.wide q (by omega)) HNe.out.1 HNe.out.2.1 HNe.out.2.2
          rw [List.length_replicate, List.length_replicate, progZ_len, zG_len] at this
          exact this)
        have HYx := Lib.hid Y.out
        have HBw := Lib.hid hbw
        clear X Y hbw
        go_wp2
        refine bodyPost_ret (v := .agg #[.slice (some ⟨b, 0, none⟩) 256 256, .slice (some ⟨b1, 0, none⟩) 32 32, .slice (some ⟨ba, 0, none⟩) 256 c, .slice C 16 d, .int .i64 0]) (by simp [results, Try.results66, go_sem, s0, s1, s2, s3, s4]) rfl ?_
        exact ⟨some ⟨b, 0, none⟩, some ⟨b1, 0, none⟩, some ⟨ba, 0, none⟩, C, 256, 32, c, d, rfl, Lib.hid (by rw [H.out.1]; exact (HR.out.far5 HYx.out _ _ _ _ _).wide (Nat.le_refl _) (by rw [size5]; exact Nat.le_refl _)), below5 HBw.out (Nat.le_refl _) _ _ _ _ _⟩

section
variable (A0 : Option Addr) (c0 : Nat) (d0 : List Int) (w : World)
end
end Go.Proofs.Ytagdclbpgkilgaa

/- The source's mem: a drawn valid memory. Written by gen_drawmem.py. -/
namespace Go.Proofs.Ytagdclbpgkilgaa
open Go.RowKit

/-- A memory in the making: rows of its own, the source, the result's block. -/
structure MS (w : World) (b : Nat) (A : Option Addr) (n c : Nat) (zs : List Nat) (K D g b0 b1 c0 c1 : Nat) (A2 : Option Addr) (c2 : Nat) (C3 : Option Addr) (c3 : Nat) (st : Int) (zz : List Int) (gg : List Bool) (W : World) : Prop where
  btw : Btw b (b + 1) w W
  s : Src W b A n c zs K
  r : Box W w.heap.size 28 #[.slice none 0 0, .slice none 0 0, .slice none 0 0, .slice none 0 0, .int .i64 0]
  x : Box W D 28 #[.slice (some ⟨b0, 0, none⟩) 256 c0, .slice (some ⟨b1, 0, none⟩) 32 c1, .slice A2 256 c2, .slice C3 16 c3, .int .i64 st]
  R : ∃ ram : List Int, ram.length = 256 ∧ ram.all byB = true ∧ OwnI W w.heap.size g (some ⟨b0, 0, none⟩) ram
  I : ∃ io : List Int, io.length = 32 ∧ io.all byB = true ∧ OwnI W w.heap.size g (some ⟨b1, 0, none⟩) io
  Z : OwnI W g W.heap.size A2 zz
  G : OwnB W g W.heap.size C3 gg
  ne : b0 ≠ b1
  lt : b < w.heap.size
  lg : w.heap.size ≤ g
  dl : w.heap.size + 1 ≤ D
section
variable {w : World} {b : Nat} {A : Option Addr} {n c : Nat} {zs : List Nat} {K D g b0 b1 c0 c1 : Nat} {A2 : Option Addr} {c2 : Nat} {C3 : Option Addr} {c3 : Nat} {st : Int} {zz : List Int} {gg : List Bool} {W W2 : World}
theorem MS.mono {K2 : Nat} (h : MS w b A n c zs K D g b0 b1 c0 c1 A2 c2 C3 c3 st zz gg W) (hk : K ≤ K2) : MS w b A n c zs K2 D g b0 b1 c0 c1 A2 c2 C3 c3 st zz gg W := ⟨h.btw, h.s.mono hk, h.r, h.x, h.R, h.I, h.Z, h.G, h.ne, h.lt, h.lg, h.dl⟩
theorem MS.next {K2 : Nat} (h : MS w b A n c zs K D g b0 b1 c0 c1 A2 c2 C3 c3 st zz gg W) (S : Src W2 b A n c zs K2) (hb : Btw b (b + 1) W W2) : MS w b A n c zs K2 D g b0 b1 c0 c1 A2 c2 C3 c3 st zz gg W2 := by
  have hl := h.lt
  have hg := h.lg
  have hd := h.dl
  refine ⟨h.btw.trans hb, S, h.r.btw hb (.inr (by omega)), h.x.btw hb (.inr (by omega)), ?_, ?_, (h.Z.btw hb (.inr (by omega))).wideB (Nat.le_refl _) hb.size, (h.G.btw hb (.inr (by omega))).wide (Nat.le_refl _) hb.size, h.ne, h.lt, h.lg, h.dl⟩
  · obtain ⟨ram, h1, h2, h3⟩ := h.R; exact ⟨ram, h1, h2, h3.btw hb (.inr (by omega))⟩
  · obtain ⟨io, h1, h2, h3⟩ := h.I; exact ⟨io, h1, h2, h3.btw hb (.inr (by omega))⟩
theorem MS.drew (h : MS w b A n c zs K D g b0 b1 c0 c1 A2 c2 C3 c3 st zz gg W) : MS w b A n c zs K D g b0 b1 c0 c1 A2 c2 C3 c3 st zz gg W.drew := ⟨h.btw.drew, h.s.drew, h.r, h.x, h.R, h.I, h.Z, h.G, h.ne, h.lt, h.lg, h.dl⟩
theorem all_set {l : List Int} {p : Int → Bool} (h : l.all p = true) (k : Nat) (x : Int) (hx : p x = true) : (l.set k x).all p = true := by
  rw [List.all_eq_true] at h ⊢
  intro y hy
  rcases List.mem_or_eq_of_mem_set hy with q | rfl
  · exact h y q
  · exact hx
theorem OwnI.farBlk {w : World} {lo hi b1 b0 : Nat} {zs : List Int} (h : OwnI w lo hi (some ⟨b1, 0, none⟩) zs) (hne : b1 ≠ b0) (v : Nat) (u : Value) : OwnI (w.setCell ⟨b0, v, none⟩ u) lo hi (some ⟨b1, 0, none⟩) zs := by
  have hb : Btw b0 (b0 + 1) w (w.setCell ⟨b0, v, none⟩ u) := (Btw.refl _ _ _).setCell (p := ⟨b0, v, none⟩) (Nat.le_refl _) (Nat.lt_succ_self _) _
  rcases h with e | ⟨g, m, f, e, h1, h2, hm, hr, hf⟩
  · exact .inl e
  · have : b1 = g := by injection e with e; injection e
    exact .inr ⟨g, m, f, e, h1, h2, hm, hb.row hr (by omega), hf⟩
theorem byB_nat {u : Nat} (h : u < 256) : byB (u : Int) = true := by unfold byB; simp; omega
theorem MS.ram (h : MS w b A n c zs K D g b0 b1 c0 c1 A2 c2 C3 c3 st zz gg W) (v u : Nat) (hv : v < 256) (hu : u < 256) : MS w b A n c zs K D g b0 b1 c0 c1 A2 c2 C3 c3 st zz gg (W.setCell ⟨b0, v, none⟩ (.int .i64 (u : Int))) := by
  obtain ⟨ram, l0, a0, O⟩ := h.R
  obtain ⟨io, l1, a1, O1⟩ := h.I
  obtain ⟨b', m, f, e, hc, hf, h1, h2, hr, hput⟩ := O.put v (by omega)
  have eb : b0 = b' := by injection e with e; injection e
  subst eb
  have hb : Btw b0 (b0 + 1) W (W.setCell ⟨b0, v, none⟩ (.int .i64 (u : Int))) := (Btw.refl _ _ _).setCell (p := ⟨b0, v, none⟩) (Nat.le_refl _) (Nat.lt_succ_self _) _
  have q : Below w.heap.size W (W.setCell ⟨b0, v, none⟩ (.int .i64 (u : Int))) := (Below.refl _ _).setCell (p := ⟨b0, v, none⟩) h1 _
  exact ⟨btw_below h.btw q (Nat.le_refl _), h.s.below q h.lt, h.r.other hr (by decide) _ _, h.x.other hr (by decide) _ _, ⟨_, by rw [List.length_set]; exact l0, all_set a0 v _ (byB_nat hu), hput u⟩, ⟨io, l1, a1, O1.farBlk h.ne.symm v _⟩, (h.Z.btw hb (.inr (by omega))).wideB (Nat.le_refl _) (by simp [World.setCell]), (h.G.other hr (by decide) _ _).wide (Nat.le_refl _) (by simp [World.setCell]), h.ne, h.lt, h.lg, h.dl⟩
theorem MS.io (h : MS w b A n c zs K D g b0 b1 c0 c1 A2 c2 C3 c3 st zz gg W) (v u : Nat) (hv : v < 32) (hu : u < 256) : MS w b A n c zs K D g b0 b1 c0 c1 A2 c2 C3 c3 st zz gg (W.setCell ⟨b1, v, none⟩ (.int .i64 (u : Int))) := by
  obtain ⟨ram, l0, a0, O⟩ := h.R
  obtain ⟨io, l1, a1, O1⟩ := h.I
  obtain ⟨b', m, f, e, hc, hf, h1, h2, hr, hput⟩ := O1.put v (by omega)
  have eb : b1 = b' := by injection e with e; injection e
  subst eb
  have hb : Btw b1 (b1 + 1) W (W.setCell ⟨b1, v, none⟩ (.int .i64 (u : Int))) := (Btw.refl _ _ _).setCell (p := ⟨b1, v, none⟩) (Nat.le_refl _) (Nat.lt_succ_self _) _
  have q : Below w.heap.size W (W.setCell ⟨b1, v, none⟩ (.int .i64 (u : Int))) := (Below.refl _ _).setCell (p := ⟨b1, v, none⟩) h1 _
  exact ⟨btw_below h.btw q (Nat.le_refl _), h.s.below q h.lt, h.r.other hr (by decide) _ _, h.x.other hr (by decide) _ _, ⟨ram, l0, a0, O.farBlk h.ne v _⟩, ⟨_, by rw [List.length_set]; exact l1, all_set a1 v _ (byB_nat hu), hput u⟩, (h.Z.btw hb (.inr (by omega))).wideB (Nat.le_refl _) (by simp [World.setCell]), (h.G.other hr (by decide) _ _).wide (Nat.le_refl _) (by simp [World.setCell]), h.ne, h.lt, h.lg, h.dl⟩
theorem MS.cR (h : MS w b A n c zs K D g b0 b1 c0 c1 A2 c2 C3 c3 st zz gg W) (v : Nat) (hv : v < 256) : (∃ y, W.cell? ⟨b0, v, none⟩ = some y) ∧ W.frozen? ⟨b0, v, none⟩ = false := by
  obtain ⟨ram, l0, a0, O⟩ := h.R
  obtain ⟨b', m, f, e, hc, hf, _⟩ := O.put v (by omega)
  have eb : b0 = b' := by injection e with e; injection e
  subst eb
  exact ⟨⟨_, hc⟩, hf⟩
theorem MS.cI (h : MS w b A n c zs K D g b0 b1 c0 c1 A2 c2 C3 c3 st zz gg W) (v : Nat) (hv : v < 32) : (∃ y, W.cell? ⟨b1, v, none⟩ = some y) ∧ W.frozen? ⟨b1, v, none⟩ = false := by
  obtain ⟨io, l0, a0, O⟩ := h.I
  obtain ⟨b', m, f, e, hc, hf, _⟩ := O.put v (by omega)
  have eb : b1 = b' := by injection e with e; injection e
  subst eb
  exact ⟨⟨_, hc⟩, hf⟩
end

theorem RepL.int {w : World} {D : Option Addr} {n g : Nat} {zs : List Int} (h : RepL w (.slice D n g) (.I zs)) : IntL w D zs := by
  obtain ⟨A, c, e, h⟩ := h
  injection e with e _ _
  rw [e]; exact h
theorem RepL.bool {w : World} {D : Option Addr} {n g : Nat} {zs : List Bool} (h : RepL w (.slice D n g) (.B zs)) : BoolL w D zs := by
  obtain ⟨A, c, e, h⟩ := h
  injection e with e _ _
  rw [e]; exact h
theorem zR_all : zR.all byB = true := by unfold zR; rw [List.all_replicate]; rfl
theorem zI_all : zI.all byB = true := by unfold zI; rw [List.all_replicate]; rfl
/-- A drawn memory: valid, of its own. -/
def GivesMemX (w : World) (R : World → Prop) (e : Ending) (w' : World) : Prop :=
  ∃ r i zs gs st A0 A1 A2 A3 c0 c1 c2 c3, Hid (okMem r i zs gs st = true) ∧ e = .returned (.agg #[.slice A0 256 c0, .slice A1 32 c1, .slice A2 256 c2, .slice A3 16 c3, .int .i64 st]) ∧ Hid (OwnA w' w.heap.size w'.heap.size [.slice A0 256 c0, .slice A1 32 c1, .slice A2 256 c2, .slice A3 16 c3] [.I r, .I i, .I zs, .B gs]) ∧ Hid (R w')

end Go.Proofs.Ytagdclbpgkilgaa

/- What the law on write cycles uses: FlashDrawn, CycleOf, sameFlash; what a cycle does to a block. -/
namespace Go.Proofs.Ytagdclbpgkilgaa
open Go.RowKit

set_option maxRecDepth 100000 in
theorem lawSameInts (A A' : Option Addr) (n n' c c' : Nat) (zs : List Int) (w : World) (hl : zs.length = n) (hl' : zs.length = n') (hn : n ≤ maxLen) (h : IntL w A zs) (h' : IntL w A' zs) :
    Calls Try.prog 23 #[.slice A n c, .slice A' n' c'] w fun e w' => e = .returned (.bool true) ∧ Below w.heap.size w w' := by
  unfold maxLen at hn
  have HL := Lib.hid hl
  obtain rfl : n = n' := by omega
  have H := Lib.hid h
  have H' := Lib.hid h'
  clear hl hl' h h'
  have hb : ((n : Int) != (n : Int)) = false := by simp
  go_enter Try.func23, Try.ntmps23
  go_wp2
  go_loopw [5] (fun i wr => ∃ k : Nat, k ≤ n ∧ i = .int .i64 k ∧ Below w.heap.size w wr) (fun i _ => n - (intOf i).toNat)
  case atStart => exact ⟨0, Nat.zero_le _, rfl, Below.refl _ _⟩
  case round =>
    obtain ⟨k, hk, rfl, hbw⟩ := hrel
    by_cases hlt : k < n
    · obtain ⟨b, off, rfl, hc⟩ := (H.out.below hbw) k (by rw [HL.out]; exact hlt)
      obtain ⟨b', off', rfl, hc'⟩ := (H'.out.below hbw) k (by rw [HL.out]; exact hlt)
      generalize zs.getD k 0 = x at hc hc'
      have hi : (k : Int) < (n : Int) := by omega
      have hq1 : (x != x) = false := by simp
      have hq2 : (x == x) = true := by simp
      go_wp2
      go_quiet (fail)
      go_wp2
      go_roundw
      case rel => exact ⟨k + 1, by omega, by go_num, below_drewN hbw _⟩
      case measure => simp [intOf]; omega
    · go_wp2
      go_ret
      exact ⟨rfl, hbw⟩

set_option maxRecDepth 100000 in
set_option maxHeartbeats 2000000 in
theorem lawSameFlash (A A' C C' : Option Addr) (n n' m m' c c' d d' : Nat) (st : Int) (zs : List Int) (gs : List Bool) (w : World) (hl : zs.length = n) (hl' : zs.length = n') (hm : gs.length = m) (hm' : gs.length = m') (hn : n ≤ maxLen) (hmm : m ≤ maxLen) (h : IntL w A zs) (h' : IntL w A' zs) (g : BoolL w C gs) (g' : BoolL w C' gs) :
    Calls Try.prog 54 #[.agg #[.slice A n c, .slice C m d, .int .i64 st], .agg #[.slice A' n' c', .slice C' m' d', .int .i64 st]] w fun e w' => e = .returned (.bool true) ∧ Below w.heap.size w w' := by
  obtain ⟨W0, hW0⟩ : ∃ W0, W0 = ((w.alloc (.cells #[.slice A n c, .slice C m d, .int .i64 st] 26)).alloc (.cells #[.slice A' n' c', .slice C' m' d', .int .i64 st] 26)) := ⟨_, rfl⟩
  have hb0 : Below w.heap.size w W0 := by rw [hW0]; exact bt (alloc_below _ _) (alloc_below _ _)
  have X0 : Box W0 w.heap.size 26 #[.slice A n c, .slice C m d, .int .i64 st] := by rw [hW0]; exact (Box.new _ _ _).alloc _
  have Y0 : Box W0 (w.heap.size + 1) 26 #[.slice A' n' c', .slice C' m' d', .int .i64 st] := by rw [hW0]; simpa using Box.new (w.alloc (.cells #[.slice A n c, .slice C m d, .int .i64 st] 26)) 26 #[.slice A' n' c', .slice C' m' d', .int .i64 st]
  have HS := Lib.hid (lawSameInts A A' n n' c c' zs W0 hl hl' hn (h.below hb0) (h'.below hb0))
  have H := Lib.hid g
  have H' := Lib.hid g'
  have HX := Lib.hid (And.intro X0 Y0)
  have HW0 := Lib.hid hW0
  have HM := Lib.hid hm
  obtain rfl : m = m' := by omega
  unfold maxLen at hmm
  have q1 : (st != st) = false := by simp
  have q2 : ((m : Int) != (m : Int)) = false := by simp
  clear hl hl' hm hm' hn h h' g g' X0 Y0 hW0
  go_enter Try.func54, Try.ntmps54
  go_wp2_with fail
  rw [← HW0.out]
  refine HS.out.mono ?_
  rintro e w1 ⟨rfl, hb1⟩
  have X1 := HX.out.1.step hb1
  have Y1 := HX.out.2.step hb1
  have x1 := X1.cell 1 rfl
  have y1 := Y1.cell 1 rfl
  have HX1 := Lib.hid (And.intro X1 Y1)
  have hb := bt hb0 hb1
  clear X1 Y1 HX HW0 hb0 hb1 HS
  go_wp2
  clear x1 y1
  go_loopw [5] (fun i wr => ∃ k : Nat, k ≤ m ∧ i = .int .i64 k ∧ Below w1.heap.size w1 wr) (fun i _ => m - (intOf i).toNat)
  case atStart => exact ⟨0, Nat.zero_le _, rfl, Below.refl _ _⟩
  case round =>
    obtain ⟨k, hk, rfl, hbw⟩ := hrel
    have x1 := (HX1.out.1.step hbw).cell 1 rfl
    have y1 := (HX1.out.2.step hbw).cell 1 rfl
    by_cases hlt : k < m
    · obtain ⟨b, off, rfl, hc⟩ := (H.out.below (bt hb hbw)) k (by rw [HM.out]; exact hlt)
      obtain ⟨b', off', rfl, hc'⟩ := (H'.out.below (bt hb hbw)) k (by rw [HM.out]; exact hlt)
      generalize gs.getD k false = x at hc hc'
      have hi : (k : Int) < (m : Int) := by omega
      have hq1 : (x != x) = false := by simp
      have hq2 : (x == x) = true := by simp
      go_wp2
      go_quiet (fail)
      go_wp2
      go_roundw
      case rel => exact ⟨k + 1, by omega, by go_num, below_drewN hbw _⟩
      case measure => simp [intOf]; omega
    · go_wp2
      go_ret
      exact ⟨rfl, bt hb hbw⟩

/-- p holds from a on, n times. -/
def pre (p : Nat → Bool) (a : Nat) : Nat → Bool
  | 0 => true
  | n + 1 => pre p a n && p (a + n)
theorem pre_all {p : Nat → Bool} {a n : Nat} (h : ∀ i, i < n → p (a + i) = true) : pre p a n = true := by
  induction n with
  | zero => rfl
  | succ n ih => unfold pre; rw [ih (fun i hi => h i (by omega)), h n (by omega)]; rfl
theorem pre_false {p : Nat → Bool} {a n : Nat} (h : pre p a n = false) : pre p a (n + 1) = false := by unfold pre; rw [h]; rfl
theorem pre_next {p : Nat → Bool} {a n : Nat} (h : pre p a n = true) : pre p a (n + 1) = p (a + n) := by rw [pre, h, Bool.true_and]
def eraP (x : List Int) (i : Nat) : Bool := x.getD i 0 == 255
def felP (x z : List Int) (i : Nat) : Bool := (((x.getD i 0).toNat &&& (z.getD i 0).toNat : Nat) : Int) == x.getD i 0
def samP (x z : List Int) (i : Nat) : Bool := x.getD i 0 == z.getD i 0

theorem fel_same {x z : List Int} {i : Nat} (h : x.getD i 0 = z.getD i 0) (h0 : 0 ≤ x.getD i 0) : felP x z i = true := by
  unfold felP
  rw [← h, Nat.and_self, Int.toNat_of_nonneg h0]
  simp
theorem getD_mem {z : List Int} {i : Nat} (h : i < z.length) : z.getD i 0 ∈ z := by
  rw [List.getD_eq_getElem?_getD, List.getElem?_eq_getElem h]; exact List.getElem_mem _
theorem progL_at (zs : List Int) (gs : List Bool) (k v i : Nat) (hi : i < zs.length) : (progL zs gs k v).getD i 0 = if i = k ∧ gs.getD (k / 16) false = false then (((zs.getD k 0).toNat &&& v : Nat) : Int) else zs.getD i 0 := by
  unfold progL
  by_cases hg : gs.getD (k / 16) false = true
  · rw [if_pos hg, if_neg (by rw [hg]; simp)]
  · rw [if_neg hg]
    by_cases e : i = k
    · subst e
      rw [if_pos ⟨rfl, by simpa using hg⟩, List.getD_eq_getElem?_getD, List.getElem?_set_self hi]
      rfl
    · rw [if_neg (fun q => e q.1), List.getD_eq_getElem?_getD, List.getElem?_set_ne (fun q => e q.symm), ← List.getD_eq_getElem?_getD]
theorem eraseL_at (zs : List Int) (gs : List Bool) (b i : Nat) (hi : i < zs.length) : (eraseL zs gs b).getD i 0 = if (b * 16 ≤ i ∧ i < b * 16 + 16) ∧ gs.getD b false = false then 255 else zs.getD i 0 := by
  unfold eraseL
  by_cases hg : gs.getD b false = true
  · rw [if_pos hg, if_neg (by rw [hg]; simp)]
  · rw [if_neg hg, fillR_at _ _ _ _ hi]
    have hg' : gs.getD b false = false := by simpa using hg
    by_cases q : b * 16 ≤ i ∧ i < b * 16 + 16
    · rw [if_pos q, if_pos ⟨q, hg'⟩]
    · rw [if_neg q, if_neg (fun e => q e.1)]
theorem eraseN_at (zs : List Int) (gs : List Bool) (i : Nat) (hi : i < zs.length) : ∀ n, (eraseN zs gs n).getD i 0 = if i / 16 < n ∧ gs.getD (i / 16) false = false then 255 else zs.getD i 0
  | 0 => by rw [if_neg (by omega)]; rfl
  | n + 1 => by
    rw [eraseN, eraseL_at _ _ _ _ (by rw [eraseN_len]; exact hi), eraseN_at zs gs i hi n]
    by_cases q : n * 16 ≤ i ∧ i < n * 16 + 16
    · have e : i / 16 = n := by omega
      rw [e]
      by_cases g : gs.getD n false = false
      · rw [if_pos ⟨q, g⟩, if_pos ⟨by omega, g⟩]
      · rw [if_neg (fun h => g h.2), if_neg (by omega), if_neg (fun h => g h.2)]
    · rw [if_neg (fun h => q h.1)]
      by_cases g : i / 16 < n ∧ gs.getD (i / 16) false = false
      · rw [if_pos g, if_pos ⟨by omega, g.2⟩]
      · rw [if_neg g, if_neg (fun h => g ⟨by omega, h.2⟩)]

/-- What a cycle does to a cell: it is as it was, or its block is not protected and it fell (by programming), or its whole block is erased. -/
theorem cyc_block (zs : List Int) (gs : List Bool) (st : Int) (k v b : Nat) (hz : zs.length = 256) (hzs : ∀ z ∈ zs, 0 ≤ z ∧ z ≤ 255) (hb : b < 16) :
    (∀ i, i < 16 → felP (cycZ zs gs st k v) zs (b * 16 + i) = true) ∧ (gs.getD b false = true → ∀ i, i < 16 → samP (cycZ zs gs st k v) zs (b * 16 + i) = true) ∨ gs.getD b false = false ∧ ∀ i, i < 16 → eraP (cycZ zs gs st k v) (b * 16 + i) = true := by
  have same : ∀ x : List Int, (∀ i, i < 16 → x.getD (b * 16 + i) 0 = zs.getD (b * 16 + i) 0) → (∀ i, i < 16 → felP x zs (b * 16 + i) = true) ∧ (gs.getD b false = true → ∀ i, i < 16 → samP x zs (b * 16 + i) = true) := fun x hx =>
    ⟨fun i hi => fel_same (hx i hi) (by rw [hx i hi]; exact (hzs _ (getD_mem (by omega))).1), fun _ i hi => by unfold samP; rw [hx i hi]; simp⟩
  unfold cycZ
  split
  · left
    constructor
    · intro i hi
      have hm := hzs _ (getD_mem (show b * 16 + i < zs.length by omega))
      by_cases q : b * 16 + i = k ∧ gs.getD (k / 16) false = false
      · unfold felP
        rw [progL_at _ _ _ _ _ (by omega), if_pos q, ← q.1]
        have : ((((zs.getD (b * 16 + i) 0).toNat &&& v : Nat) : Int).toNat &&& (zs.getD (b * 16 + i) 0).toNat) = (zs.getD (b * 16 + i) 0).toNat &&& v := by
          rw [Int.toNat_natCast, Nat.and_comm, ← Nat.and_assoc, Nat.and_self]
        rw [this]; simp
      · exact fel_same (by rw [progL_at _ _ _ _ _ (by omega), if_neg q]) (by rw [progL_at _ _ _ _ _ (by omega), if_neg q]; exact hm.1)
    · intro hg i hi
      unfold samP
      rw [progL_at _ _ _ _ _ (by omega), if_neg]
      · simp
      · rintro ⟨rfl, q⟩
        rw [show (b * 16 + i) / 16 = b by omega, hg] at q
        cases q
  · split
    · unfold wipeZ
      split
      · split
        · by_cases g : gs.getD b false = false
          · right
            refine ⟨g, fun i hi => ?_⟩
            unfold eraP
            rw [eraseN_at _ _ _ (by omega), if_pos ⟨by omega, by rw [show (b * 16 + i) / 16 = b by omega]; exact g⟩]
            rfl
          · left
            exact same _ (fun i hi => by rw [eraseN_at _ _ _ (by omega), if_neg (fun q => g (by have := q.2; rwa [show (b * 16 + i) / 16 = b by omega] at this))])
        · left; exact same _ (fun _ _ => rfl)
      · split
        · by_cases g : b = k / 16 ∧ gs.getD b false = false
          · right
            refine ⟨g.2, fun i hi => ?_⟩
            unfold eraP
            rw [← g.1, eraseL_at _ _ _ _ (by omega), if_pos ⟨by omega, g.2⟩]
            rfl
          · left
            exact same _ (fun i hi => by rw [eraseL_at _ _ _ _ (by omega), if_neg (fun q => g ⟨by omega, by have := q.2; rwa [show k / 16 = b by omega] at this⟩)])
        · left; exact same _ (fun _ _ => rfl)
    · left; exact same _ (fun _ _ => rfl)
theorem cyc_guard (gs : List Bool) (st : Int) (k b : Nat) (h : gs.getD b false = true) (hb : b < gs.length) : (cycG gs st k).getD b false = true := by
  unfold cycG
  split
  · by_cases e : b = k / 16
    · subst e; rw [List.getD_eq_getElem?_getD, List.getElem?_set_self hb]; rfl
    · rw [List.getD_eq_getElem?_getD, List.getElem?_set_ne (fun q => e q.symm), ← List.getD_eq_getElem?_getD]; exact h
  · exact h
end Go.Proofs.Ytagdclbpgkilgaa

/- laws.at, told exactly; laws.sameTexts. -/
namespace Go.Proofs.Ytagdclbpgkilgaa
open Go.RowKit

/-- The i-th choice out of N that these bytes make. -/
def atOf (zs : List Nat) (i N : Nat) : Nat := if zs.length = 0 then i * 7 % N else (zs.getD (i % zs.length) 0 * 31 + zs.getD ((i + 1) % zs.length) 0 + i / zs.length) % N
theorem atOf_lt (zs : List Nat) (i N : Nat) (h : 0 < N) : atOf zs i N < N := by unfold atOf; split <;> exact Nat.mod_lt _ h

set_option maxRecDepth 100000 in
set_option maxHeartbeats 4000000 in
theorem lawAtE (i N : Nat) (A : Option Addr) (n c : Nat) (zs : List Nat) (w : World) (hi : i ≤ 1000) (hN : 2 ≤ N) (hN2 : N ≤ 5000) (hn : n ≤ 1048576) (hl : zs.length = n) (h : ByB w w.heap.size A zs) :
    Calls Try.prog 11 #[.slice A n c, .int .i64 (i : Nat), .int .i64 (N : Nat)] w fun e w' => e = .returned (.int .i64 (atOf zs i N : Nat)) ∧ Below w.heap.size w w' := by
  have h1 : ¬ (N : Int) ≤ 1 := by omega
  have h3 : ¬ (N : Int) = 0 := by omega
  have hi0 : (0 : Int) ≤ (i : Int) := by omega
  by_cases h0 : n = 0
  · have h0' : (n : Int) = 0 := by omega
    have HA : Hid (atOf zs i N = i * 7 % N) := Lib.hid (by unfold atOf; rw [if_pos (by omega)])
    have u1 : (0 : Int) ≤ (i : Int) * 7 := by omega
    clear h hl
    go_enter Try.func11, Try.ntmps11
    go_wp2
    have e1 : (i : Int) * 7 % (N : Int) = ((i * 7 % N : Nat) : Int) := by simp
    rw [e1]
    refine bodyPost_ret (v := .int .i64 ((i * 7 % N : Nat) : Int)) (by simp [results, Try.results11, go_sem]) rfl ?_
    exact ⟨by rw [HA.out], Below.refl _ _⟩
  · have h0' : ¬ (n : Int) = 0 := by omega
    have HA : Hid (atOf zs i N = (zs.getD (i % n) 0 * 31 + zs.getD ((i + 1) % n) 0 + i / n) % N) := Lib.hid (by unfold atOf; rw [if_neg (by omega), hl])
    obtain ⟨b, off, rfl, hb, hc, hv⟩ := h (i % n) (by rw [hl]; exact Nat.mod_lt _ (by omega))
    obtain ⟨b', off', eA, _, hc', hv'⟩ := h ((i + 1) % n) (by rw [hl]; exact Nat.mod_lt _ (by omega))
    injection eA with eA; injection eA with e1 e2; subst e1 e2
    generalize zs.getD (i % n) 0 = x at hc hv HA
    generalize zs.getD ((i + 1) % n) 0 = y at hc' hv' HA
    obtain ⟨p, hp⟩ : ∃ p, p = i % n := ⟨_, rfl⟩
    obtain ⟨q, hq⟩ : ∃ q, q = (i + 1) % n := ⟨_, rfl⟩
    obtain ⟨r, hr⟩ : ∃ r, r = i / n := ⟨_, rfl⟩
    rw [← hp] at hc
    rw [← hq] at hc'
    have t1 : (i : Int).tmod (n : Int) = (p : Int) := by rw [Int.tmod_eq_emod_of_nonneg (by omega), hp]; simp
    have t2 : ((i : Int) + 1).tmod (n : Int) = (q : Int) := by rw [Int.tmod_eq_emod_of_nonneg (by omega), hq]; simp
    have t3 : (i : Int).tdiv (n : Int) = (r : Int) := by rw [Int.tdiv_eq_ediv_of_nonneg (by omega), hr]; simp
    have hp1 : (p : Int) < (n : Int) := by have := Nat.mod_lt i (show 0 < n by omega); omega
    have hq1 : (q : Int) < (n : Int) := by have := Nat.mod_lt (i + 1) (show 0 < n by omega); omega
    have hr1 : r ≤ 1000 := by rw [hr]; exact Nat.le_trans (Nat.div_le_self _ _) hi
    rw [← hr] at HA
    clear hp hq hr h hl
    have t1' : (i : Int) % (n : Int) = (p : Int) := by rw [← t1, Int.tmod_eq_emod_of_nonneg (by omega)]
    have t2' : ((i : Int) + 1) % (n : Int) = (q : Int) := by rw [← t2, Int.tmod_eq_emod_of_nonneg (by omega)]
    have t3' : (i : Int) / (n : Int) = (r : Int) := by rw [← t3, Int.tdiv_eq_ediv_of_nonneg (by omega)]
    have u0 : IntKind.i64.wrap ((i : Int) + 1) = (i : Int) + 1 := IntWalk.i64_in _ ⟨by omega, by omega⟩
    have u1 : IntKind.i64.wrap (p : Int) = (p : Int) := IntWalk.i64_in _ ⟨by omega, by omega⟩
    have u2 : IntKind.i64.wrap (q : Int) = (q : Int) := IntWalk.i64_in _ ⟨by omega, by omega⟩
    have u3 : IntKind.i64.wrap (r : Int) = (r : Int) := IntWalk.i64_in _ ⟨by omega, by omega⟩
    have u4 : IntKind.i64.wrap (x : Int) = (x : Int) := IntWalk.i64_in _ ⟨by omega, by omega⟩
    have u5 : IntKind.i64.wrap (y : Int) = (y : Int) := IntWalk.i64_in _ ⟨by omega, by omega⟩
    have u6 : IntKind.i64.wrap ((x : Int) * 31) = (x : Int) * 31 := IntWalk.i64_in _ ⟨by omega, by omega⟩
    have u7 : IntKind.i64.wrap ((x : Int) * 31 + (y : Int)) = (x : Int) * 31 + (y : Int) := IntWalk.i64_in _ ⟨by omega, by omega⟩
    have u8 : IntKind.i64.wrap ((x : Int) * 31 + (y : Int) + (r : Int)) = (x : Int) * 31 + (y : Int) + (r : Int) := IntWalk.i64_in _ ⟨by omega, by omega⟩
    obtain ⟨z, hz⟩ : ∃ z, z = (x * 31 + y + r) % N := ⟨_, rfl⟩
    have HA2 : Hid (atOf zs i N = z) := Lib.hid (by rw [HA.out, hz])
    have hz1 : z < N := by rw [hz]; exact Nat.mod_lt _ (by omega)
    have t4' : ((x : Int) * 31 + (y : Int) + (r : Int)) % (N : Int) = (z : Int) := by rw [hz]; simp
    have t4 : ((x : Int) * 31 + (y : Int) + (r : Int)).tmod (N : Int) = (z : Int) := by rw [Int.tmod_eq_emod_of_nonneg (by omega), t4']
    have u9 : IntKind.i64.wrap (z : Int) = (z : Int) := IntWalk.i64_in _ ⟨by omega, by omega⟩
    clear hz
    go_enter Try.func11, Try.ntmps11
    go_wp2
    go_quiet (fail)
    go_wp2
    refine bodyPost_ret (v := .int .i64 (z : Int)) (by simp [results, Try.results11, go_sem]) rfl ?_
    exact ⟨by rw [HA2.out], below_drewN (Below.refl _ _) _⟩

end Go.Proofs.Ytagdclbpgkilgaa

/- Region on both sides. -/
namespace Go.Proofs.Ytagdclbpgkilgaa
open Go.RowKit

def rgnF (a : Int) : Int × Int × Int := if adB a = true then (regR a, regK a, 0) else (0, 0, 4)
end Go.Proofs.Ytagdclbpgkilgaa

/- The law FnBus, walked. -/
namespace Go.Proofs.Ytagdclbpgkilgaa
open Go.RowKit

section
variable {r i zs : List Int} {gs : List Bool} {st : Int}
theorem ok_put (h : okMem r i zs gs st = true) (k u : Nat) (hu : u < 256) : okMem (putR r k u) (putI i k u) (putZ zs gs st k u) (putG gs st k) (putS st k u) = true := by
  obtain ⟨h1, h2, h3, h4, h5⟩ := okMem_len h
  refine okMem_mk (by rw [putR_len]; exact h1) (by rw [putI_len]; exact h2) ?_ ?_ ?_
  · unfold putR; split
    · exact all_set h3 _ _ (byB_nat hu)
    · exact h3
  · unfold putI; split
    · exact all_set h4 _ _ (byB_nat hu)
    · exact h4
  · unfold putZ putG putS
    by_cases e : regR (k : Int) = 3
    · rw [if_pos e, if_pos e, if_pos e]
      have hk : 0 ≤ regK (k : Int) := by unfold regK; unfold regR at e; split at e <;> rename_i q <;> simp_all <;> (try split at e) <;> simp_all <;> omega
      have := ok_cycle h5 (regK (k : Int)).toNat u hu
      rw [show ((regK (k : Int)).toNat : Int) = regK (k : Int) from by omega] at this
      exact this
    · rw [if_neg e, if_neg e, if_neg e]; exact h5
theorem get_set (l : List Int) (k : Nat) (x : Int) (h : k < l.length) : (l.set k x).getD k 0 = x := by
  rw [List.getD_eq_getElem?_getD, List.getElem?_set_self h]; rfl
/-- What comes back, and what is left alone. -/
theorem bus_ways (h : okMem r i zs gs st = true) (k u : Nat) (hk : k < 4096) (hu : u < 256) :
    (regR k = 1 ∧ getV (putR r k u) (putI i k u) (putZ zs gs st k u) (putG gs st k) readV (putS st k u) k = u ∧ putZ zs gs st k u = zs ∧ putG gs st k = gs ∧ putS st k u = st) ∨
    (regR k = 2 ∧ k ≠ 256 ∧ getV (putR r k u) (putI i k u) (putZ zs gs st k u) (putG gs st k) readV (putS st k u) k = u) ∨
    (regR k = 2 ∧ k = 256 ∧ putR r k u = r ∧ putI i k u = i ∧ putZ zs gs st k u = zs ∧ putG gs st k = gs ∧ putS st k u = st) ∨
    (regR k = 3 ∧ putR r k u = r ∧ putI i k u = i) ∨
    (regR k = 0 ∧ getV (putR r k u) (putI i k u) (putZ zs gs st k u) (putG gs st k) readV (putS st k u) k = 255 ∧ putR r k u = r ∧ putI i k u = i ∧ putZ zs gs st k u = zs ∧ putG gs st k = gs ∧ putS st k u = st) := by
  obtain ⟨l1, l2, _⟩ := okMem_len h
  rcases reg_ways k hk with ⟨q1, e1, e2⟩ | ⟨q1, q2, e1, e2⟩ | ⟨q1, q2, e1, e2⟩ | ⟨q1, q2, e1, e2⟩
  · left
    refine ⟨e1, ?_, ?_, ?_, ?_⟩
    · unfold getV putR; rw [if_pos e1, if_pos e1, e2]; exact get_set _ _ _ (by rw [l1]; simpa using q1)
    · unfold putZ; rw [if_neg (by rw [e1]; omega)]
    · unfold putG; rw [if_neg (by rw [e1]; omega)]
    · unfold putS; rw [if_neg (by rw [e1]; omega)]
  · by_cases hk2 : k = 256
    · right; right; left
      refine ⟨e1, hk2, ?_, ?_, ?_, ?_, ?_⟩
      · unfold putR; rw [if_neg (by rw [e1]; omega)]
      · unfold putI; rw [if_neg (by rw [e2]; omega)]
      · unfold putZ; rw [if_neg (by rw [e1]; omega)]
      · unfold putG; rw [if_neg (by rw [e1]; omega)]
      · unfold putS; rw [if_neg (by rw [e1]; omega)]
    · right; left
      refine ⟨e1, hk2, ?_⟩
      unfold getV putI; rw [if_neg (by rw [e1]; omega), if_pos e1, if_pos ⟨e1, by rw [e2]; omega⟩, e2]
      exact get_set _ _ _ (by rw [l2]; simp; omega)
  · right; right; right; left
    refine ⟨e1, ?_, ?_⟩
    · unfold putR; rw [if_neg (by rw [e1]; omega)]
    · unfold putI; rw [if_neg (by rw [e1]; omega)]
  · right; right; right; right
    refine ⟨e1, ?_, ?_, ?_, ?_, ?_, ?_⟩
    · unfold getV; rw [if_neg (by rw [e1]; omega), if_neg (by rw [e1]; omega), if_neg (by rw [e1]; omega)]
    · unfold putR; rw [if_neg (by rw [e1]; omega)]
    · unfold putI; rw [if_neg (by rw [e1]; omega)]
    · unfold putZ; rw [if_neg (by rw [e1]; omega)]
    · unfold putG; rw [if_neg (by rw [e1]; omega)]
    · unfold putS; rw [if_neg (by rw [e1]; omega)]
end

/-- A variable that holds a valid memory. -/
structure MV (D : Nat) (A0 A1 A2 A3 : Option Addr) (c0 c1 c2 c3 : Nat) (r i zs : List Int) (gs : List Bool) (st : Int) (W : World) : Prop where
  x : Box W D 28 #[.slice A0 256 c0, .slice A1 32 c1, .slice A2 256 c2, .slice A3 16 c3, .int .i64 st]
  i0 : IntL W A0 r
  i1 : IntL W A1 i
  i2 : IntL W A2 zs
  i3 : BoolL W A3 gs
section
variable {D : Nat} {A0 A1 A2 A3 : Option Addr} {c0 c1 c2 c3 : Nat} {r i zs : List Int} {gs : List Bool} {st : Int} {W W' : World}
theorem MV.step (h : MV D A0 A1 A2 A3 c0 c1 c2 c3 r i zs gs st W) (hb : Below W.heap.size W W') : MV D A0 A1 A2 A3 c0 c1 c2 c3 r i zs gs st W' := ⟨h.x.step hb, h.i0.below hb, h.i1.below hb, h.i2.below hb, h.i3.below hb⟩
theorem MV.new {lo hi : Nat} (h : OwnA W lo hi [.slice A0 256 c0, .slice A1 32 c1, .slice A2 256 c2, .slice A3 16 c3] [.I r, .I i, .I zs, .B gs]) : MV W.heap.size A0 A1 A2 A3 c0 c1 c2 c3 r i zs gs st (W.alloc (.cells #[.slice A0 256 c0, .slice A1 32 c1, .slice A2 256 c2, .slice A3 16 c3, .int .i64 st] 28)) := by
  have hb := alloc_below W (.cells #[.slice A0 256 c0, .slice A1 32 c1, .slice A2 256 c2, .slice A3 16 c3, .int .i64 st] 28)
  have q := h.reads
  exact ⟨Box.new _ _ _, (RepL.int q.1).below hb, (RepL.int q.2.1).below hb, (RepL.int q.2.2.1).below hb, (RepL.bool q.2.2.2.1).below hb⟩

/-- BusPut of a valid memory within bounds. -/
def PutGives (r i zs : List Int) (gs : List Bool) (st : Int) (w : World) (e : Ending) (w' : World) : Prop :=
  ∃ A0 A1 A2 A3 c0 c1 c2 c3, e = .returned (.tuple #[.agg #[.slice A0 256 c0, .slice A1 32 c1, .slice A2 256 c2, .slice A3 16 c3, .int .i64 st], .int .i64 0]) ∧ Hid (OwnA w' w.heap.size w'.heap.size [.slice A0 256 c0, .slice A1 32 c1, .slice A2 256 c2, .slice A3 16 c3] [.I r, .I i, .I zs, .B gs]) ∧ Below w.heap.size w w'
theorem PutGives.of {a v : Int} {w : World} {e : Ending} {w' : World} (hok : okMem r i zs gs st = true) (ha : adB a = true) (hv : byB v = true) (h : GivesMemCode (putF r i zs gs st a v).1 (putF r i zs gs st a v).2.1 (putF r i zs gs st a v).2.2.1 (putF r i zs gs st a v).2.2.2.1 (putF r i zs gs st a v).2.2.2.2.1 (putF r i zs gs st a v).2.2.2.2.2 w e w') : PutGives (putR r a v) (putI i a v) (putZ zs gs st a v) (putG gs st a) (putS st a v) w e w' := by
  rw [putF_ok _ _ _ _ _ _ _ hok ha hv] at h
  obtain ⟨A0, A1, A2, A3, c0, c1, c2, c3, e1, O, hb⟩ := h
  obtain ⟨l1, l2, _, _, l5⟩ := okMem_len hok
  have l6 := okFlash_len l5
  simp only [putR_len, putI_len, putZ_len, putG_len, l1, l2, l6.1, l6.2.1] at e1 O
  exact ⟨A0, A1, A2, A3, c0, c1, c2, c3, e1, O, hb⟩
variable {B0 B1 B2 B3 : Option Addr} {e0 e1 e2 e3 D' : Nat}
set_option maxRecDepth 100000 in
set_option maxHeartbeats 2000000 in
theorem lawSameMem (hok : okMem r i zs gs st = true) (q : MV D A0 A1 A2 A3 c0 c1 c2 c3 r i zs gs st W) (p : MV D' B0 B1 B2 B3 e0 e1 e2 e3 r i zs gs st W) :
    Calls Try.prog 18 #[.agg #[.slice A0 256 c0, .slice A1 32 c1, .slice A2 256 c2, .slice A3 16 c3, .int .i64 st], .agg #[.slice B0 256 e0, .slice B1 32 e1, .slice B2 256 e2, .slice B3 16 e3, .int .i64 st]] W fun e w' => e = .returned (.bool true) ∧ Below W.heap.size W w' := by
  obtain ⟨l1, l2, _, _, l5⟩ := okMem_len hok
  have l6 := okFlash_len l5
  have m1 : (256 : Nat) ≤ maxLen := by unfold maxLen; omega
  have m2 : (32 : Nat) ≤ maxLen := by unfold maxLen; omega
  have m3 : (16 : Nat) ≤ maxLen := by unfold maxLen; omega
  obtain ⟨W0, hW0⟩ : ∃ W0, W0 = ((W.alloc (.cells #[.slice A0 256 c0, .slice A1 32 c1, .slice A2 256 c2, .slice A3 16 c3, .int .i64 st] 28)).alloc (.cells #[.slice B0 256 e0, .slice B1 32 e1, .slice B2 256 e2, .slice B3 16 e3, .int .i64 st] 28)) := ⟨_, rfl⟩
  have hb0 : Below W.heap.size W W0 := by rw [hW0]; exact bt (alloc_below _ _) (alloc_below _ _)
  have X0 : Hid (Box W0 W.heap.size 28 #[.slice A0 256 c0, .slice A1 32 c1, .slice A2 256 c2, .slice A3 16 c3, .int .i64 st]) := Lib.hid (by rw [hW0]; exact (Box.new _ _ _).alloc _)
  have Y0 : Hid (Box W0 (W.heap.size + 1) 28 #[.slice B0 256 e0, .slice B1 32 e1, .slice B2 256 e2, .slice B3 16 e3, .int .i64 st]) := Lib.hid (by rw [hW0]; simpa using Box.new (W.alloc (.cells #[.slice A0 256 c0, .slice A1 32 c1, .slice A2 256 c2, .slice A3 16 c3, .int .i64 st] 28)) 28 #[.slice B0 256 e0, .slice B1 32 e1, .slice B2 256 e2, .slice B3 16 e3, .int .i64 st])
  have H0 := Lib.hid (fun V (hb : Below W.heap.size W V) => lawSameInts A0 B0 256 256 c0 e0 r V l1 l1 m1 (q.i0.below hb) (p.i0.below hb))
  have H1 := Lib.hid (fun V (hb : Below W.heap.size W V) => lawSameInts A1 B1 32 32 c1 e1 i V l2 l2 m2 (q.i1.below hb) (p.i1.below hb))
  have H2 := Lib.hid (fun V (hb : Below W.heap.size W V) => lawSameFlash A2 B2 A3 B3 256 256 16 16 c2 e2 c3 e3 st zs gs V l6.1 l6.1 l6.2.1 l6.2.1 m1 m3 (q.i2.below hb) (p.i2.below hb) (q.i3.below hb) (p.i3.below hb))
  have HW0 := Lib.hid hW0
  have x0 := X0.out.cell 0 rfl
  have y0 := Y0.out.cell 0 rfl
  rw [HW0.out] at x0 y0
  clear l1 l2 l5 l6 m1 m2 m3 hW0 q p hok
  go_enter Try.func18, Try.ntmps18
  go_wp2_with fail
  rw [← HW0.out]
  refine (H0.out _ hb0).mono ?_
  rintro e w1 ⟨rfl, hb1⟩
  have q1 := bt hb0 hb1
  have X1 := X0.out.step hb1
  have Y1 := Y0.out.step hb1
  have x1 := X1.cell 1 rfl
  have y1 := Y1.cell 1 rfl
  have HX1 := Lib.hid (And.intro X1 Y1)
  clear x0 y0 X1 Y1
  go_wp2_with fail
  refine (H1.out _ q1).mono ?_
  rintro e w2 ⟨rfl, hb2⟩
  have q2 := bt q1 hb2
  have X2 := HX1.out.1.step hb2
  have Y2 := HX1.out.2.step hb2
  have x2 := X2.cell 2 rfl
  have x3 := X2.cell 3 rfl
  have x4 := X2.cell 4 rfl
  have y2 := Y2.cell 2 rfl
  have y3 := Y2.cell 3 rfl
  have y4 := Y2.cell 4 rfl
  clear x1 y1 X2 Y2 HX1
  go_wp2_with fail
  refine (H2.out _ q2).mono ?_
  rintro e w3 ⟨rfl, hb3⟩
  go_wp2
  go_ret
  exact ⟨rfl, bt q2 hb3⟩
end
end Go.Proofs.Ytagdclbpgkilgaa

/- The calls that the law FnDma makes, over a valid memory and four valid channels. -/
namespace Go.Proofs.Ytagdclbpgkilgaa
open Go.RowKit

/-- Moved: a memory, four channels, whether it was the last byte, no refusal. -/
def GivesMvd (m : MD) (rs : List TChannel) (last : Bool) (w : World) (e : Ending) (w' : World) : Prop :=
  ∃ B0 B1 B2 B3 A e0 e1 e2 e3 c, e = .returned (.tuple #[.agg #[.slice B0 256 e0, .slice B1 32 e1, .slice B2 256 e2, .slice B3 16 e3, .int .i64 m.s], .slice A 4 c, .bool last, .int .i64 0]) ∧ Hid (RepM w' B0 B1 B2 B3 m) ∧ Hid (RowF w' A rs) ∧ Below w.heap.size w w'
section
variable {B0 B1 B2 B3 A : Option Addr} {e0 e1 e2 e3 c : Nat} {m m' : MD} {rs rs' : List TChannel} {W : World}
theorem m256 : (256 : Nat) ≤ maxLen := by unfold maxLen; omega
theorem m32 : (32 : Nat) ≤ maxLen := by unfold maxLen; omega
theorem m16 : (16 : Nat) ≤ maxLen := by unfold maxLen; omega
theorem m4 : (4 : Nat) ≤ maxLen := by unfold maxLen; omega
theorem mvdOf {i : Int} {last : Bool} {e : Ending} {W' : World} (hm : dmaM m rs i = m') (hr : dmaR m rs i = rs') (ht : dmaT m rs i = last) (hc : moveCode m rs i = 0) (hok : m'.Ok) (h4 : rs'.length = 4) (h : GivesMR (dmaM m rs i) (dmaR m rs i) (dmaT m rs i) (moveCode m rs i) W e W') : GivesMvd m' rs' last W e W' := by
  rw [hm, hr, ht, hc] at h
  obtain ⟨B0, B1, B2, B3, A, e0, e1, e2, e3, c, he, O, hb⟩ := h
  obtain ⟨r0, r1, r2, r3, r4, -⟩ := O.out.reads
  have q := rep_rChannel.1 r4
  rw [hok.r, hok.i, hok.z, hok.g, h4] at he
  exact ⟨B0, B1, B2, B3, A, e0, e1, e2, e3, c, he, Lib.hid ⟨hok, repI r0, repI r1, repI r2, repB r3⟩, Lib.hid ⟨h4, q.2⟩, hb⟩
theorem moveC_ok {c : TChannel} (h : chB c = true) : chB (moveC c) = true := by
  obtain ⟨h1, h2, h3, h4⟩ := chB_range h
  unfold moveC
  split
  · exact h
  · unfold moved chB adC byC upB
    simp only [Bool.and_eq_true, decide_eq_true_eq]
    omega
theorem moved_is (hok : m.Ok) (hd : dmaB rs = true) (k : Nat) (hk : k < 4) : moveCode m rs k = 0 ∧ dmaM m rs k = moveM m (rs.getD k zChannel) ∧ dmaR m rs k = rs.set k (moveC (rs.getD k zChannel)) ∧ dmaT m rs k = moveL (rs.getD k zChannel) := by
  have hc : moveCode m rs k = 0 := moveCode_ok (by have := (dmaB_len hd).1; omega) (by rw [Bool.and_eq_true]; exact ⟨MD.ok_iff.2 hok, hd⟩) (by unfold chanB; simp only [decide_eq_true_eq]; omega)
  exact ⟨hc, by unfold dmaM; rw [if_pos hc]; rfl, by unfold dmaR; rw [if_pos hc]; rfl, by unfold dmaT; rw [if_pos hc]; rfl⟩
set_option maxRecDepth 100000 in
/-- A byte moved, by the model and by the program. -/
theorem moveS (hm : RepM W B0 B1 B2 B3 m) (hr : RowF W A rs) (hd : dmaB rs = true) (k : Nat) (hk : k < 4) :
    Calls Try.prog 17 #[.agg #[.slice B0 256 e0, .slice B1 32 e1, .slice B2 256 e2, .slice B3 16 e3, .int .i64 m.s], .slice A 4 c, .int .i64 k] W (GivesMvd (moveM m (rs.getD k zChannel)) (rs.set k (moveC (rs.getD k zChannel))) (moveL (rs.getD k zChannel)) W) := by
  obtain ⟨hc, h1, h2, h3⟩ := moved_is hm.1 hd k hk
  have hq := hm.1
  exact (specDmaMove B0 B1 B2 B3 256 32 256 16 e0 e1 e2 e3 m A 4 c rs k W hq.r hq.i hq.z hq.g m256 m32 m256 m16 hm.2.1 hm.2.2.1 hm.2.2.2.1 hm.2.2.2.2 hr.1 m4 hr.2).mono fun _ _ h => mvdOf h1 h2 h3 hc (moveM_ok hq (dmaB_at hd k hk)) (by rw [List.length_set]; exact hr.1) h
set_option maxRecDepth 100000 in
theorem moveI (hm : RepM W B0 B1 B2 B3 m) (hr : RowF W A rs) (hd : dmaB rs = true) (k : Nat) (hk : k < 4) :
    Calls Try.prog 14 #[.agg #[.slice B0 256 e0, .slice B1 32 e1, .slice B2 256 e2, .slice B3 16 e3, .int .i64 m.s], .slice A 4 c, .int .i64 k] W (GivesMvd (moveM m (rs.getD k zChannel)) (rs.set k (moveC (rs.getD k zChannel))) (moveL (rs.getD k zChannel)) W) := by
  obtain ⟨hc, h1, h2, h3⟩ := moved_is hm.1 hd k hk
  have hq := hm.1
  exact (implDmaMove B0 B1 B2 B3 256 32 256 16 e0 e1 e2 e3 m A 4 c rs k W hq.r hq.i hq.z hq.g m256 m32 m256 m16 hm.2.1 hm.2.2.1 hm.2.2.2.1 hm.2.2.2.2 hr.1 m4 hr.2).mono fun _ _ h => mvdOf h1 h2 h3 hc (moveM_ok hq (dmaB_at hd k hk)) (by rw [List.length_set]; exact hr.1) h
set_option maxRecDepth 100000 in
/-- A round of the law's transfer. -/
theorem roundI {f t n : Nat} (hok : m.Ok) (hf : f + n ≤ t) (ht : t + n ≤ 256) (hn : n ≤ 255) (k : Nat) (hm : RepM W B0 B1 B2 B3 (memN m f t n k)) (hr : RowF W A (fourN (chanN f t n k))) :
    Calls Try.prog 14 #[.agg #[.slice B0 256 e0, .slice B1 32 e1, .slice B2 256 e2, .slice B3 16 e3, .int .i64 m.s], .slice A 4 c, .int .i64 2] W (GivesMvd (memN m f t n (k + 1)) (fourN (chanN f t n (k + 1))) (decide ((k : Int) = (n : Int) - 1)) W) := by
  obtain ⟨h1, h2, h3⟩ := round_is hok hf ht hn k
  have hq := hm.1
  exact (implDmaMove B0 B1 B2 B3 256 32 256 16 e0 e1 e2 e3 (memN m f t n k) A 4 c _ 2 W hq.r hq.i hq.z hq.g m256 m32 m256 m16 hm.2.1 hm.2.2.1 hm.2.2.2.1 hm.2.2.2.2 hr.1 m4 hr.2).mono fun _ _ h => mvdOf h1 h2 h3 (round_code hok hf ht hn k) (memN_ok hok hf ht _) rfl h
set_option maxRecDepth 100000 in
/-- No channels yet; the channel of the transfer set. -/
theorem newI9 : Calls Try.prog 13 #[] W fun e w' => ∃ A c, e = .returned (.slice A 4 c) ∧ Hid (RowChannel w' A newRs) ∧ Below W.heap.size W w' :=
  (implNewDmaA W).mono fun _ _ ⟨A, c, he, O, hb⟩ => ⟨A, c, he, Lib.hid (rep_rChannel.1 O.out.reads.1).2, hb⟩
set_option maxRecDepth 100000 in
theorem setI9 {f t n : Nat} (hf : f + n ≤ 4095) (ht : t + n ≤ 4095) (hn : n ≤ 255) (h : RowChannel W A newRs) :
    Calls Try.prog 12 #[.slice A 4 c, .int .i64 2, .agg #[.int .i64 f, .int .i64 t, .int .i64 n, .int .i64 1]] W fun e w' => ∃ A' c', e = .returned (.tuple #[.slice A' 4 c', .int .i64 0]) ∧ Hid (RowF w' A' (fourN (chanN f t n 0))) ∧ Below W.heap.size W w' := by
  obtain ⟨s1, s2⟩ := start_is hf ht hn
  have q := implSetChannel A c newRs 2 f t n 1 W h m4
  rw [s1, s2] at q
  exact q.mono fun _ _ ⟨A, c, he, O, hb⟩ => ⟨A, c, he, Lib.hid (rep_rChannel.1 O.out.reads.1), hb⟩
set_option maxRecDepth 100000 in
theorem okI9 (hd : dmaB rs = true) (hr : RowF W A rs) : Calls Try.prog 15 #[.slice A 4 c] W fun e w' => e = .returned (.bool true) ∧ Below W.heap.size W w' := by
  have q := implDmaOK A 4 c rs W hr.1 m4 hr.2
  rwa [hd] at q
end
end Go.Proofs.Ytagdclbpgkilgaa

/- A region that draws its order, walked once by facts; what holds of the world may hang on which operations have come up. -/
namespace Go.Proofs.Ytagdclbpgkilgaa
open Go.RowKit
section
variable {P : Program} {ops : Array Oper} {Q : Exit → Act → World → Prop} {sup bef : List (List Nat)} {base : List Nat} {a : Act}
def StepG (P : Program) (Q : Exit → Act → World → Prop) (sup bef : List (List Nat)) (base : List Nat) (a : Act) (C : (Nat → Bool) → World → Prop) (F : Nat → (Nat → Value) → World → Prop) (i : Nat) (o : Oper) : Prop :=
  ∀ (L : Nat → Bool) (T : Array Value) (W : World), T.size = a.tmps.size → (∀ s ∈ base, T.getD s undef = a.tmps.getD s undef) → L i = false → (∀ j ∈ bef.getD i [], L j = true) → (∀ k, L k = true → ∀ j ∈ bef.getD k [], L j = true) → C L W → (∀ j ∈ bef.getD i [], F j (mask (sup.getD j []) T) W) →
    ∀ K : Act → World → Prop, Shut (∀ v W', C (fun j => if j = i then true else L j) W' → (∀ j t, j ≠ i → F j t W → F j t W') → F i (mask (sup.getD i []) (Act.put { a with tmps := T } o.dst v).tmps) W' → K (Act.put { a with tmps := T } o.dst v) W') →
      Oper.wp P o { a with tmps := T } W K Q
def StepsG (P : Program) (Q : Exit → Act → World → Prop) (sup bef : List (List Nat)) (base : List Nat) (a : Act) (C : (Nat → Bool) → World → Prop) (F : Nat → (Nat → Value) → World → Prop) : Nat → List Oper → Prop
  | _, [] => True
  | i, o :: l => StepG P Q sup bef base a C F i o ∧ StepsG P Q sup bef base a C F (i + 1) l
theorem StepsG.get {C : (Nat → Bool) → World → Prop} {F : Nat → (Nat → Value) → World → Prop} : ∀ {l : List Oper} {i : Nat}, StepsG P Q sup bef base a C F i l → ∀ j o, l[j]? = some o → StepG P Q sup bef base a C F (i + j) o
  | [], _, _, j, o, h => by simp at h
  | o' :: l, i, hs, 0, o, h => by simp at h; subst h; exact hs.1
  | o' :: l, i, hs, j + 1, o, h => by
    have := StepsG.get hs.2 j o (by simpa using h)
    rwa [show i + 1 + j = i + (j + 1) by omega] at this
structure InvG (ops : Array Oper) (sup bef : List (List Nat)) (base : List Nat) (a : Act) (C : (Nat → Bool) → World → Prop) (F : Nat → (Nat → Value) → World → Prop) (L : Array Bool) (T : Array Value) (W : World) : Prop where
  size : T.size = a.tmps.size
  same : ∀ s ∈ base, T.getD s undef = a.tmps.getD s undef
  c : C (fun j => L.getD j false) W
  lsz : L.size = ops.size
  down : ∀ i, L.getD i false = true → ∀ j ∈ bef.getD i [], L.getD j false = true
  fact : ∀ i, L.getD i false = true → F i (mask (sup.getD i []) T) W
theorem wpAny_sets (hok : regOk ops sup bef base = true) (C : (Nat → Bool) → World → Prop) (F : Nat → (Nat → Value) → World → Prop)
    (hstep : StepsG P Q sup bef base a C F 0 ops.toList)
    (hend : ∀ T W, T.size = a.tmps.size → (∀ s ∈ base, T.getD s undef = a.tmps.getD s undef) → (∃ L : Nat → Bool, (∀ i, i < ops.size → L i = true) ∧ C L W) → (∀ i, i < ops.size → F i (mask (sup.getD i []) T) W) → Q .normal { a with tmps := T } W) :
    ∀ (fuel : Nat) (L : Array Bool) (T : Array Value) (W : World), InvG ops sup bef base a C F L T W → (L.toList.count false ≤ fuel) → wpAny P .any ops Q fuel L { a with tmps := T } W := by
  obtain ⟨hops, hbase⟩ := regOk_spec hok
  have hlow := fun i o ho => (hops i o ho).2.1
  have fin : ∀ L T W, InvG ops sup bef base a C F L T W → Region.ready .any ops L = [] → Q .normal { a with tmps := T } W := fun L T W I hr => hend T W I.size I.same ⟨fun j => L.getD j false, ready_nil_all I.lsz hlow hr, I.c⟩ (fun i hi => I.fact i (ready_nil_all I.lsz hlow hr i hi))
  intro fuel
  induction fuel with
  | zero =>
    intro L T W I hf
    have hr : Region.ready .any ops L = [] := by
      apply List.eq_nil_iff_forall_not_mem.2
      intro j hj
      obtain ⟨h1, o, ho, _⟩ := mem_ready.1 hj
      have hjl : j < L.size := by rw [I.lsz]; exact (Array.getElem?_eq_some_iff.1 ho).1
      have : false ∈ L.toList := by
        simp only [Array.getD_eq_getD_getElem?] at h1
        rw [Array.getElem?_eq_getElem hjl] at h1
        simp only [Option.getD_some] at h1
        rw [← h1]
        simp
      have := List.count_pos_iff.2 this
      omega
    exact ⟨hr, fin L T W I hr⟩
  | succ fuel ih =>
    intro L T W I hf
    refine ⟨fin L T W I, fun i hi => ?_⟩
    obtain ⟨h1, o, ho, hall⟩ := mem_ready.1 hi
    have hil : i < L.size := by rw [I.lsz]; exact (Array.getElem?_eq_some_iff.1 ho).1
    have hlf : L.getD i false = false := by
      simp only [Array.getD_eq_getD_getElem?] at h1 ⊢
      rw [Array.getElem?_eq_getElem hil] at h1 ⊢
      simpa using h1
    obtain ⟨hg, hlo, hbf, hsp⟩ := hops i o ho
    have hbef : ∀ j ∈ bef.getD i [], L.getD j false = true := fun j hj => by
      obtain ⟨e, he, hb, q⟩ := hbf j hj
      have he' := hall e he hb
      rcases q with rfl | q
      · exact he'
      · exact I.down e.on he' j q
    have hs : StepG P Q sup bef base a C F i o := by
      have := hstep.get i o (by simpa using ho)
      simpa using this
    refine wpOp_step ho (fun K' hK => ?_)
    rw [if_pos (by simp [Region.wanted, hg])]
    refine hs (fun j => L.getD j false) T W I.size I.same hlf hbef (fun k hk j hj => I.down k hk j hj) I.c (fun j hj => I.fact j (hbef j hj)) K' (fun v W' hc hkeep hnew => hK _ _ ?_)
    have hnotin : ∀ k, L.getD k false = true → k ≠ i := fun k hk e => by subst e; rw [hlf] at hk; cases hk
    have hput : (Act.put { a with tmps := T } o.dst v) = { a with tmps := (Act.put { a with tmps := T } o.dst v).tmps } := by
      unfold Act.put; cases o.dst <;> rfl
    have hslot : ∀ s, o.dst ≠ some s → (Act.put { a with tmps := T } o.dst v).tmps.getD s undef = T.getD s undef := fun s hd => by
      cases hdd : o.dst with
      | none => rfl
      | some d => exact getD_set_val T d s v (fun e => hd (by rw [hdd, e]))
    rw [hput]
    refine ih _ _ W' ⟨?_, ?_, ?_, by simpa using I.lsz, ?_, ?_⟩ ?_
    · rw [← I.size]; cases hdd : o.dst <;> simp [Act.put]
    · intro s hsb
      rw [hslot s (hbase s hsb i o ho)]
      exact I.same s hsb
    · have e : (fun j => (L.setIfInBounds i true).getD j false) = fun j => if j = i then true else L.getD j false := funext fun j => getD_set_bool L i j hil
      show C (fun j => (L.setIfInBounds i true).getD j false) W'
      rw [e]; exact hc
    · intro k hk j hj
      rw [getD_set_bool L i k hil] at hk
      rw [getD_set_bool L i j hil]
      by_cases hki : k = i
      · subst hki
        rw [hbef j hj]; simp
      · rw [if_neg hki] at hk
        rw [I.down k hk j hj]; simp
    · intro k hk
      rw [getD_set_bool L i k hil] at hk
      by_cases hki : k = i
      · subst hki; exact hnew
      · rw [if_neg hki] at hk
        have hF := hkeep k _ hki (I.fact k hk)
        have hmk : mask (sup.getD k []) (Act.put { a with tmps := T } o.dst v).tmps = mask (sup.getD k []) T := by
          funext s
          unfold mask
          by_cases hsup : s ∈ sup.getD k []
          · rw [if_pos (List.contains_iff_mem.2 hsup), if_pos (List.contains_iff_mem.2 hsup)]
            refine hslot s (fun hd => ?_)
            have hko : k < ops.size := by
              rw [← I.lsz]
              apply Classical.byContradiction
              intro hn
              simp only [Array.getD_eq_getD_getElem?] at hk
              rw [Array.getElem?_eq_none (by omega)] at hk
              cases hk
            rcases (hops k _ (Array.getElem?_eq_getElem hko)).2.2.2 s hsup i o ho hd with q | q
            · exact hki q.symm
            · have := I.down k hk i q
              rw [hlf] at this
              cases this
          · rw [if_neg (fun q => hsup (List.contains_iff_mem.1 q)), if_neg (fun q => hsup (List.contains_iff_mem.1 q))]
        rw [hmk]; exact hF
    · have hset : (L.setIfInBounds i true).toList = L.toList.set i true := by simp
      rw [hset]
      have hct : (L.toList.set i true).count false + 1 = L.toList.count false := by
        have hx : L.toList[i]'(by simpa using hil) = false := by
          simp only [Array.getD_eq_getD_getElem?] at hlf
          rw [Array.getElem?_eq_getElem hil] at hlf
          simpa using hlf
        rw [List.count_set (by simpa using hil)]
        have hpos : 0 < L.toList.count false := List.count_pos_iff.2 (by rw [← hx]; exact List.getElem_mem _)
        rw [hx]
        simp only [beq_self_eq_true, if_true, show (true == false) = false from rfl, Bool.false_eq_true, if_false]
        omega
      omega

/-- The law. -/
theorem wp_region_sets {id : Nat} {w : World} (hm : P.follows .mixedOrders = true) (sup bef : List (List Nat)) (base : List Nat) (hok : regOk ops sup bef base = true) (C : (Nat → Bool) → World → Prop) (F : Nat → (Nat → Value) → World → Prop) (hC : C (fun _ => false) w.drew)
    (hstep : StepsG P Q sup bef base a C F 0 ops.toList)
    (hend : ∀ T W, T.size = a.tmps.size → (∀ s ∈ base, T.getD s undef = a.tmps.getD s undef) → (∃ L : Nat → Bool, (∀ i, i < ops.size → L i = true) ∧ C L W) → (∀ i, i < ops.size → F i (mask (sup.getD i []) T) W) → Q .normal { a with tmps := T } W) :
    (Code.region id ops true).wp P Q a w := by
  refine wp_region_any hm ?_
  have := wpAny_sets hok C F hstep hend ops.size (Array.replicate ops.size false) a.tmps w.drew ⟨rfl, fun _ _ => rfl, by
    have e : (fun j => (Array.replicate ops.size false).getD j false) = fun _ => false := funext fun j => by simp only [Array.getD_eq_getD_getElem?]; rw [Array.getElem?_replicate]; split <;> rfl
    show C (fun j => (Array.replicate ops.size false).getD j false) w.drew
    rw [e]; exact hC, by simp, fun i hi => ?_, fun i hi => ?_⟩ (by simp)
  · exact this
  all_goals (
    exfalso
    simp only [Array.getD_eq_getD_getElem?] at hi
    rw [Array.getElem?_replicate] at hi
    split at hi <;> simp at hi)
end
end Go.Proofs.Ytagdclbpgkilgaa
