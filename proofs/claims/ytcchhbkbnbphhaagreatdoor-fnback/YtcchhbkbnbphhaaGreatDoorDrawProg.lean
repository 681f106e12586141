/- The source's program: a row of ints, at most 256. Written by gen_prog.py. -/
import Derived.Test.YtcchhbkbnbphhaaGreatDoorM8
import Derived.Test.YtcchhbkbnbphhaaGreatDoorM1
namespace Go.Proofs.YtcchhbkbnbphhaaGreatDoor
open Go.RowKit

structure PI (w : World) (b : Nat) (A : Option Addr) (n c : Nat) (zs : List Nat) (K k : Nat) (A' : Option Addr) (c' : Nat) (wr : World) : Prop where
  btw : Btw b (b + 1) w wr
  s : Src wr b A n c zs K
  i : ∃ ps : List Int, (ps.length = k ∧ ∀ z ∈ ps, 0 ≤ z ∧ z ≤ 255) ∧ wr.ownsRow w.heap.size 3 1 (.slice A' k c') k (ps.map (Value.int .i64))
  lt : b < w.heap.size
  sz : w.heap.size + 1 ≤ wr.heap.size
section
variable {w wr w2 : World} {b : Nat} {A : Option Addr} {n c : Nat} {zs : List Nat} {K k : Nat} {A' : Option Addr} {c' : Nat}
theorem PI.next {K2 : Nat} (h : PI w b A n c zs K k A' c' wr) (S : Src w2 b A n c zs K2) (hb : Btw b (b + 1) wr w2) : PI w b A n c zs K2 k A' c' w2 := by
  obtain ⟨ps, hl, hr⟩ := h.i
  exact ⟨h.btw.trans hb, S, ⟨ps, hl, rowv_keep hr (fun k hk hk2 => hb.block k hk2 (.inr (by have := h.lt; omega)))⟩, h.lt, Nat.le_trans h.sz hb.size⟩
theorem PI.step (h : PI w b A n c zs K k A' c' wr) (hb : Below wr.heap.size wr w2) : PI w b A n c zs K k A' c' w2 := by
  obtain ⟨ps, hl, hr⟩ := h.i
  exact ⟨btw_below h.btw hb h.btw.size, h.s.below hb h.s.lt, ⟨ps, hl, rowv_below hr hb⟩, h.lt, Nat.le_trans h.sz hb.size⟩
theorem PI.mono {K2 : Nat} (h : PI w b A n c zs K k A' c' wr) (hk : K ≤ K2) : PI w b A n c zs K2 k A' c' wr := ⟨h.btw, h.s.mono hk, h.i, h.lt, h.sz⟩
set_option maxRecDepth 100000 in
theorem wpList_app_ints {ops : Array Oper} {rest : List Oper} {o : Oper} {a : Act} {Q : Exit → Act → World → Prop} {cs : Array Value} (hgd : o.guard = none) (s x : Operand)
    (ho : o.op = .call { callee := .builtin .append, args := #[s, x], argTypes := #[23, 23] }) (I : PI w b A n c zs K k A' c' wr) (us : List Int) (hcs : cs = (us.map (Value.int .i64)).toArray) (m d : Nat) (hm : us.length = m)
    (hs : a.eval s = .slice A' k c') (hx : a.eval x = .slice (some ⟨wr.heap.size, 0, none⟩) m d) (hk : k + m ≤ 1000) (hby : ∀ u ∈ us, 0 ≤ u ∧ u ≤ 255)
    (h : ∀ A2 c2 w2, Hid (PI w b A n c zs K (k + m) A2 c2 w2) → wpList Tryz.prog ops Q rest (a.put o.dst (.slice A2 (k + m) c2)) w2) : wpList Tryz.prog ops Q (o :: rest) a (wr.alloc (.cells cs 3)) := by
  obtain ⟨ps, hl, hr⟩ := I.i
  have hba := alloc_below wr (.cells cs 3)
  have hX := Box.new wr 3 cs
  refine wpList_app_many hgd s x 23 3 ho (.int .i64 0) 1 8 elemInt Tryz.underlying23 w.heap.size (.slice A' k c') k (ps.map (Value.int .i64)) hs (rowv_below hr hba) ⟨wr.heap.size, 0, none⟩ m d hx (us.map (Value.int .i64)) (by simp [hm]) (fun j u hj => ?_) (fun u hu => ?_) (by unfold maxLen; omega) (by omega) (by have := I.sz; have := hba.size; omega) (fun A2 c2 w2 hR _ _ hb => ?_)
  · rw [addr_add, Nat.zero_add]; exact hX.cell j (by rw [hcs]; simpa using hj)
  · obtain ⟨z, _, rfl⟩ := List.mem_map.1 hu; rfl
  · have hbt : Btw b (b + 1) w w2 := btw_below (btw_below I.btw hba I.btw.size) hb (Nat.le_refl _)
    exact h A2 c2 w2 (Lib.hid ⟨hbt, (I.s.below hba I.s.lt).below hb I.lt, ⟨ps ++ us, ⟨by simp [hl.1, hm], fun z hz => (List.mem_append.1 hz).elim (hl.2 z) (hby z)⟩, by rw [List.map_append]; exact hR⟩, I.lt, by have := I.sz; have := hba.size; have := hb.size; omega⟩)
end

set_option maxRecDepth 100000 in
set_option maxHeartbeats 4000000 in
theorem srcSize20 (b : Nat) (A : Option Addr) (n c : Nat) (zs : List Nat) (K : Nat) (w : World) (hn : n ≤ maxLen) (h : Src w b A n c zs K) :
    Calls Tryz.prog 79 #[.pointer (some ⟨b, 0, none⟩), .int .i64 20] w fun e w' => ∃ v : Nat, e = .returned (.int .i64 v) ∧ (1 ≤ v ∧ v ≤ 20) ∧ w = w' := by
  unfold maxLen at hn
  obtain ⟨k, sd, X, q2, q3, q4, q5⟩ := h
  have x0 := X.cell 0 rfl
  clear X q5
  go_enter Tryz.func79, Tryz.ntmps79
  go_wp2
  · refine bodyPost_ret (v := .int .i64 ((20 : Nat) : Int)) (by simp [results, Tryz.results79, go_sem]) rfl ?_
    exact ⟨20, rfl, by omega, rfl⟩
  · refine bodyPost_ret (v := .int .i64 ((1 + n / 12 : Nat) : Int)) (by simp [results, Tryz.results79, go_sem]) rfl ?_
    exact ⟨_, rfl, by omega, rfl⟩

def GivesProg (w : World) (R : World → Prop) (e : Ending) (w' : World) : Prop :=
  ∃ ps A c, Hid (ps.length ≤ 256 ∧ ∀ z ∈ ps, 0 ≤ z ∧ z ≤ 255) ∧ e = .returned (.slice A ps.length c) ∧ Hid (OwnI w' w.heap.size w'.heap.size A ps) ∧ Hid (R w')

set_option maxRecDepth 100000 in
set_option maxHeartbeats 16000000 in
theorem srcProgram (b : Nat) (A : Option Addr) (n c : Nat) (zs : List Nat) (K : Nat) (w : World) (hn : n ≤ maxLen) (hK : K ≤ 1000) (h : Src w b A n c zs K) :
    Calls Tryz.prog 44 #[.pointer (some ⟨b, 0, none⟩)] w (GivesProg w (fun w' => Src w' b A n c zs (K + 200) ∧ Btw b (b + 1) w w')) := by
  have hlt : b < w.heap.size := h.lt
  have hb0 := alloc_below w (.cells #[] 3)
  have HI0 : Hid (PI w b A n c zs K 0 (some ⟨w.heap.size, 0, none⟩) 0 (w.alloc (.cells #[] 3))) := Lib.hid ⟨Btw.of_below hb0 _ _, h.below hb0 hlt, ⟨[], ⟨rfl, fun z hz => by simp at hz⟩, rowv_empty (Nat.le_refl _) (Box.new _ _ _)⟩, hlt, by simp⟩
  have HSi := Lib.hid (fun W (h : Src W b A n c zs K) => srcSize20 b A n c zs K W hn h)
  have HNx := Lib.hid (fun N K W (h1 : 2 ≤ N) (h2 : N ≤ 256) (h3 : K ≤ 10000) (h : Src W b A n c zs K) => srcNext N b A n c zs K W h1 h2 (by omega) h)
  have HCh := Lib.hid (fun K W (h3 : K ≤ 10000) (h : Src W b A n c zs K) => srcChance 6 b A n c zs K W (by omega) (by omega) (by omega) h)
  clear h hn
  go_enter Tryz.func44, Tryz.ntmps44
  go_wp2_with fail
  generalize w.alloc (.cells #[] 3) = w1 at HI0 hb0 ⊢
  refine (HSi.out w1 HI0.out.s).mono ?_
  rintro e w1' ⟨v0, rfl, ⟨hv0, hv1⟩, rfl⟩
  have HN1 := Lib.hid (HNx.out (v0 + 6) K w1 (by omega) (by omega) (by omega) HI0.out.s)
  rw [show ((v0 + 6 : Nat) : Int) = (v0 : Int) + 6 by omega] at HN1
  go_wp2_with fail
  refine HN1.out.mono ?_
  rintro e w2 ⟨v, rfl, hv, S2, hb2⟩
  have HI2 := Lib.hid (HI0.out.next S2.out hb2)
  have hv25 : v ≤ 25 := by omega
  clear HI0 HSi HN1 hb0 hb2 S2 hv hv0 hv1 w1
  go_wp2
  go_loopw [3, 4] (fun s q wr => ∃ (i k : Nat) (A' : Option Addr) (c' : Nat), i ≤ 25 ∧ k + 3 * i ≤ 75 ∧ q = .int .i64 i ∧ s = .slice A' k c' ∧ Hid (PI w b A n c zs (K + 1 + 5 * (25 - i)) k A' c' wr)) (fun _ q _ => (intOf q).toNat)
  case atStart => exact ⟨v, 0, _, _, hv25, by omega, rfl, rfl, Lib.hid (HI2.out.mono (by omega))⟩
  case round =>
    clear HI2 hv25
    obtain ⟨i, k, A', c', hi25, hk75, rfl, rfl, I⟩ := hrel
    by_cases hi : 0 < i
    · have hi' : (0 : Int) < (i : Int) := by omega
      obtain ⟨K', hK'⟩ : ∃ K', K' = K + 1 + 5 * (25 - i) := ⟨_, rfl⟩
      rw [← hK'] at I
      have hKb : K' ≤ 5000 := by omega
      have HKr : Hid (K' + 5 ≤ K + 1 + 5 * (25 - (i - 1))) := Lib.hid (by omega)
      clear hK'
      have HN1 := Lib.hid (HNx.out 22 K' wr (by omega) (by omega) (by omega) I.out.s)
      go_wp2_with fail
      refine HN1.out.mono ?_
      rintro e w3 ⟨op, rfl, hop, S3, hb3⟩
      have I3 := Lib.hid (I.out.next S3.out hb3)
      have HN2 := Lib.hid (HNx.out 4 (K' + 1) w3 (by omega) (by omega) (by omega) I3.out.s)
      clear HN1 S3 hb3 I
      go_wp2_with fail
      refine HN2.out.mono ?_
      rintro e w4 ⟨rg, rfl, hrg, S4, hb4⟩
      have I4 := Lib.hid (I3.out.next S4.out hb4)
      clear HN2 S4 hb4 I3
      have hkk : k ≤ 72 := by omega
      have g1 : IntKind.i64.wrap (8 * (op : Int)) = 8 * (op : Int) := IntWalk.i64_in _ (by omega)
      have g2 : IntKind.i64.wrap (8 * (op : Int) + (rg : Int)) = 8 * (op : Int) + (rg : Int) := IntWalk.i64_in _ (by omega)
      have h7 : op < 5 ∨ op = 5 ∨ (op = 6 ∨ op = 7) ∨ (8 ≤ op ∧ op ≤ 14) ∨ (15 ≤ op ∧ op ≤ 18) ∨ op = 19 ∨ (op = 20 ∨ op = 21) := by omega
      rcases h7 with h7 | h7 | h7 | h7 | h7 | h7 | h7
      · have qlt5 : (op : Int) < 5 := by omega
        have qgt14 : ¬ (14 : Int) < (op : Int) := by omega
        have qe6 : ((op : Int) == 6) = false := by simp; omega
        have qe7 : ((op : Int) == 7) = false := by simp; omega
        have qge15 : ¬ (15 : Int) ≤ (op : Int) := by omega
        have qe5 : ((op : Int) == 5) = false := by simp; omega
        have qe20 : ((op : Int) == 20) = false := by simp; omega
        have qe21 : ((op : Int) == 21) = false := by simp; omega
        clear h7
        go_wp2_with (at_builtin; refine wpList_app_ints rfl (.tmp 27) (.tmp 32) rfl I4.out [_] rfl 1 1 rfl rfl rfl (by omega) (by simp; try omega) ?_)
        intro A5 c5 w5 I5
        go_wp2
        go_roundw
        case rel => exact ⟨i - 1, _, _, _, by omega, by omega, by go_num, rfl, Lib.hid (I5.out.mono (by have := HKr.out; omega))⟩
        case measure => simp [intOf]; omega
      · have qlt5 : ¬ (op : Int) < 5 := by omega
        have qgt14 : ¬ (14 : Int) < (op : Int) := by omega
        have qe6 : ((op : Int) == 6) = false := by simp; omega
        have qe7 : ((op : Int) == 7) = false := by simp; omega
        have qge15 : ¬ (15 : Int) ≤ (op : Int) := by omega
        have qe5 : ((op : Int) == 5) = true := by simp; omega
        have qe20 : ((op : Int) == 20) = false := by simp; omega
        have qe21 : ((op : Int) == 21) = false := by simp; omega
        clear h7
        go_wp2_with (at_builtin; refine wpList_app_ints rfl (.tmp 27) (.tmp 32) rfl I4.out [_] rfl 1 1 rfl rfl rfl (by omega) (by simp; try omega) ?_)
        intro A5 c5 w5 I5
        have HN3 := Lib.hid (HNx.out 4 (K' + 2) w5 (by omega) (by omega) (by omega) I5.out.s)
        go_wp2_with fail
        refine HN3.out.mono ?_
        rintro e w6 ⟨x, rfl, hx, S6, hb6⟩
        have I6 := Lib.hid (I5.out.next S6.out hb6)
        have HN4 := Lib.hid (HNx.out 256 (K' + 3) w6 (by omega) (by omega) (by omega) I6.out.s)
        clear HN3 S6 hb6 I5
        go_wp2_with fail
        refine HN4.out.mono ?_
        rintro e w7 ⟨y, rfl, hy, S7, hb7⟩
        have I7 := Lib.hid (I6.out.next S7.out hb7)
        have hba7 := alloc_below w7 (.cells #[.int .i64 (x : Int), .int .i64 (y : Int)] 3)
        have I7a := Lib.hid (I7.out.step hba7)
        have HN5 := Lib.hid (HNx.out 2 (K' + 4) _ (by omega) (by omega) (by omega) I7a.out.s)
        have X7 := Lib.hid (Box.new w7 3 #[.int .i64 (x : Int), .int .i64 (y : Int)])
        have HB7 : Hid (b < w7.heap.size) := Lib.hid I7.out.s.lt
        clear HN4 S7 hb7 I6 I7 hba7
        go_wp2_with fail
        refine HN5.out.mono ?_
        rintro e w8 ⟨z, rfl, hz, S8, hb8⟩
        have I8 := Lib.hid (I7a.out.next S8.out hb8)
        have X8 := X7.out.btw hb8 (.inr (by have := HB7.out; omega))
        have x0 := X8.cell 0 rfl
        have x1 := X8.cell 1 rfl
        clear HN5 S8 hb8 I7a X7 X8
        have hz2 : z = 0 ∨ z = 1 := by omega
        rcases hz2 with rfl | rfl
        · go_wp2_with (at_builtin; refine wpList_app_ints rfl (.tmp 71) (.tmp 81) rfl I8.out [_] rfl 1 1 rfl rfl rfl (by omega) (by simp; try omega) ?_)
          intro A9 c9 w9 I9
          go_wp2
          go_roundw
          case rel => exact ⟨i - 1, _, _, _, by omega, by omega, by go_num, rfl, Lib.hid (I9.out.mono (by have := HKr.out; omega))⟩
          case measure => simp [intOf]; omega
        · go_wp2_with (at_builtin; refine wpList_app_ints rfl (.tmp 71) (.tmp 81) rfl I8.out [_] rfl 1 1 rfl rfl rfl (by omega) (by simp; try omega) ?_)
          intro A9 c9 w9 I9
          go_wp2
          go_roundw
          case rel => exact ⟨i - 1, _, _, _, by omega, by omega, by go_num, rfl, Lib.hid (I9.out.mono (by have := HKr.out; omega))⟩
          case measure => simp [intOf]; omega
      · rcases h7 with rfl | rfl
        · go_wp2_with (at_builtin; refine wpList_app_ints rfl (.tmp 27) (.tmp 32) rfl I4.out [_] rfl 1 1 rfl rfl rfl (by omega) (by simp; try omega) ?_)
          intro A5 c5 w5 I5
          have HN3 := Lib.hid (HNx.out 256 (K' + 2) w5 (by omega) (by omega) (by omega) I5.out.s)
          go_wp2_with fail
          refine HN3.out.mono ?_
          rintro e w6 ⟨x, rfl, hx, S6, hb6⟩
          have I6 := Lib.hid (I5.out.next S6.out hb6)
          have HN4 := Lib.hid (HNx.out 3 (K' + 3) w6 (by omega) (by omega) (by omega) I6.out.s)
          clear HN3 S6 hb6 I5
          go_wp2_with fail
          refine HN4.out.mono ?_
          rintro e w7 ⟨y, rfl, hy, S7, hb7⟩
          have I7 := Lib.hid (I6.out.next S7.out hb7)
          clear HN4 S7 hb7 I6
          go_wp2_with (at_builtin; refine wpList_app_ints rfl (.tmp 41) (.tmp 46) rfl I7.out [_, _] rfl 2 2 rfl rfl rfl (by omega) (by simp; try omega) ?_)
          intro A8 c8 w8 I8
          go_wp2
          go_roundw
          case rel => exact ⟨i - 1, _, _, _, by omega, by omega, by go_num, rfl, Lib.hid (I8.out.mono (by have := HKr.out; omega))⟩
          case measure => simp [intOf]; omega
        · go_wp2_with (at_builtin; refine wpList_app_ints rfl (.tmp 27) (.tmp 32) rfl I4.out [_] rfl 1 1 rfl rfl rfl (by omega) (by simp; try omega) ?_)
          intro A5 c5 w5 I5
          have HN3 := Lib.hid (HNx.out 256 (K' + 2) w5 (by omega) (by omega) (by omega) I5.out.s)
          go_wp2_with fail
          refine HN3.out.mono ?_
          rintro e w6 ⟨x, rfl, hx, S6, hb6⟩
          have I6 := Lib.hid (I5.out.next S6.out hb6)
          have HN4 := Lib.hid (HNx.out 3 (K' + 3) w6 (by omega) (by omega) (by omega) I6.out.s)
          clear HN3 S6 hb6 I5
          go_wp2_with fail
          refine HN4.out.mono ?_
          rintro e w7 ⟨y, rfl, hy, S7, hb7⟩
          have I7 := Lib.hid (I6.out.next S7.out hb7)
          clear HN4 S7 hb7 I6
          go_wp2_with (at_builtin; refine wpList_app_ints rfl (.tmp 41) (.tmp 46) rfl I7.out [_, _] rfl 2 2 rfl rfl rfl (by omega) (by simp; try omega) ?_)
          intro A8 c8 w8 I8
          go_wp2
          go_roundw
          case rel => exact ⟨i - 1, _, _, _, by omega, by omega, by go_num, rfl, Lib.hid (I8.out.mono (by have := HKr.out; omega))⟩
          case measure => simp [intOf]; omega
      · have qlt5 : ¬ (op : Int) < 5 := by omega
        have qgt14 : ¬ (14 : Int) < (op : Int) := by omega
        have qe6 : ((op : Int) == 6) = false := by simp; omega
        have qe7 : ((op : Int) == 7) = false := by simp; omega
        have qge15 : ¬ (15 : Int) ≤ (op : Int) := by omega
        have qe5 : ((op : Int) == 5) = false := by simp; omega
        have qe20 : ((op : Int) == 20) = false := by simp; omega
        have qe21 : ((op : Int) == 21) = false := by simp; omega
        clear h7
        go_wp2_with (at_builtin; refine wpList_app_ints rfl (.tmp 27) (.tmp 32) rfl I4.out [_] rfl 1 1 rfl rfl rfl (by omega) (by simp; try omega) ?_)
        intro A5 c5 w5 I5
        go_wp2
        go_roundw
        case rel => exact ⟨i - 1, _, _, _, by omega, by omega, by go_num, rfl, Lib.hid (I5.out.mono (by have := HKr.out; omega))⟩
        case measure => simp [intOf]; omega
      · have qlt5 : ¬ (op : Int) < 5 := by omega
        have qgt14 : (14 : Int) < (op : Int) := by omega
        have qe6 : ((op : Int) == 6) = false := by simp; omega
        have qe7 : ((op : Int) == 7) = false := by simp; omega
        have qge15 : (15 : Int) ≤ (op : Int) := by omega
        have qe5 : ((op : Int) == 5) = false := by simp; omega
        have qe20 : ((op : Int) == 20) = false := by simp; omega
        have qe21 : ((op : Int) == 21) = false := by simp; omega
        have qle18 : (op : Int) ≤ 18 := by omega
        clear h7
        go_wp2_with (at_builtin; refine wpList_app_ints rfl (.tmp 27) (.tmp 32) rfl I4.out [_] rfl 1 1 rfl rfl rfl (by omega) (by simp; try omega) ?_)
        intro A5 c5 w5 I5
        have HN3 := Lib.hid (HNx.out 40 (K' + 2) w5 (by omega) (by omega) (by omega) I5.out.s)
        go_wp2_with fail
        refine HN3.out.mono ?_
        rintro e w6 ⟨x, rfl, hx, S6, hb6⟩
        have I6 := Lib.hid (I5.out.next S6.out hb6)
        clear HN3 S6 hb6 I5
        go_wp2_with (at_builtin; refine wpList_app_ints rfl (.tmp 55) (.tmp 58) rfl I6.out [_, _] rfl 2 2 rfl rfl rfl (by omega) (by simp; try omega) ?_)
        intro A8 c8 w8 I8
        go_wp2
        go_roundw
        case rel => exact ⟨i - 1, _, _, _, by omega, by omega, by go_num, rfl, Lib.hid (I8.out.mono (by have := HKr.out; omega))⟩
        case measure => simp [intOf]; omega
      · have qlt5 : ¬ (op : Int) < 5 := by omega
        have qgt14 : (14 : Int) < (op : Int) := by omega
        have qe6 : ((op : Int) == 6) = false := by simp; omega
        have qe7 : ((op : Int) == 7) = false := by simp; omega
        have qge15 : (15 : Int) ≤ (op : Int) := by omega
        have qe5 : ((op : Int) == 5) = false := by simp; omega
        have qe20 : ((op : Int) == 20) = false := by simp; omega
        have qe21 : ((op : Int) == 21) = false := by simp; omega
        have qle18 : ¬ (op : Int) ≤ 18 := by omega
        clear h7
        go_wp2_with (at_builtin; refine wpList_app_ints rfl (.tmp 27) (.tmp 32) rfl I4.out [_] rfl 1 1 rfl rfl rfl (by omega) (by simp; try omega) ?_)
        intro A5 c5 w5 I5
        go_wp2
        go_roundw
        case rel => exact ⟨i - 1, _, _, _, by omega, by omega, by go_num, rfl, Lib.hid (I5.out.mono (by have := HKr.out; omega))⟩
        case measure => simp [intOf]; omega
      · rcases h7 with rfl | rfl
        · go_wp2_with (at_builtin; refine wpList_app_ints rfl (.tmp 27) (.tmp 32) rfl I4.out [_] rfl 1 1 rfl rfl rfl (by omega) (by simp; try omega) ?_)
          intro A5 c5 w5 I5
          have HN3 := Lib.hid (HNx.out 4 (K' + 2) w5 (by omega) (by omega) (by omega) I5.out.s)
          go_wp2_with fail
          refine HN3.out.mono ?_
          rintro e w6 ⟨x, rfl, hx, S6, hb6⟩
          have I6 := Lib.hid (I5.out.next S6.out hb6)
          have HN4 := Lib.hid (HNx.out 256 (K' + 3) w6 (by omega) (by omega) (by omega) I6.out.s)
          clear HN3 S6 hb6 I5
          go_wp2_with fail
          refine HN4.out.mono ?_
          rintro e w7 ⟨y, rfl, hy, S7, hb7⟩
          have I7 := Lib.hid (I6.out.next S7.out hb7)
          have hba7 := alloc_below w7 (.cells #[.int .i64 (x : Int), .int .i64 (y : Int)] 3)
          have I7a := Lib.hid (I7.out.step hba7)
          have HN5 := Lib.hid (HNx.out 2 (K' + 4) _ (by omega) (by omega) (by omega) I7a.out.s)
          have X7 := Lib.hid (Box.new w7 3 #[.int .i64 (x : Int), .int .i64 (y : Int)])
          have HB7 : Hid (b < w7.heap.size) := Lib.hid I7.out.s.lt
          clear HN4 S7 hb7 I6 I7 hba7
          go_wp2_with fail
          refine HN5.out.mono ?_
          rintro e w8 ⟨z, rfl, hz, S8, hb8⟩
          have I8 := Lib.hid (I7a.out.next S8.out hb8)
          have X8 := X7.out.btw hb8 (.inr (by have := HB7.out; omega))
          have x0 := X8.cell 0 rfl
          have x1 := X8.cell 1 rfl
          clear HN5 S8 hb8 I7a X7 X8
          have hz2 : z = 0 ∨ z = 1 := by omega
          rcases hz2 with rfl | rfl
          · go_wp2_with (at_builtin; refine wpList_app_ints rfl (.tmp 71) (.tmp 81) rfl I8.out [_] rfl 1 1 rfl rfl rfl (by omega) (by simp; try omega) ?_)
            intro A9 c9 w9 I9
            go_wp2
            go_roundw
            case rel => exact ⟨i - 1, _, _, _, by omega, by omega, by go_num, rfl, Lib.hid (I9.out.mono (by have := HKr.out; omega))⟩
            case measure => simp [intOf]; omega
          · go_wp2_with (at_builtin; refine wpList_app_ints rfl (.tmp 71) (.tmp 81) rfl I8.out [_] rfl 1 1 rfl rfl rfl (by omega) (by simp; try omega) ?_)
            intro A9 c9 w9 I9
            go_wp2
            go_roundw
            case rel => exact ⟨i - 1, _, _, _, by omega, by omega, by go_num, rfl, Lib.hid (I9.out.mono (by have := HKr.out; omega))⟩
            case measure => simp [intOf]; omega
        · go_wp2_with (at_builtin; refine wpList_app_ints rfl (.tmp 27) (.tmp 32) rfl I4.out [_] rfl 1 1 rfl rfl rfl (by omega) (by simp; try omega) ?_)
          intro A5 c5 w5 I5
          have HN3 := Lib.hid (HNx.out 4 (K' + 2) w5 (by omega) (by omega) (by omega) I5.out.s)
          go_wp2_with fail
          refine HN3.out.mono ?_
          rintro e w6 ⟨x, rfl, hx, S6, hb6⟩
          have I6 := Lib.hid (I5.out.next S6.out hb6)
          have HN4 := Lib.hid (HNx.out 256 (K' + 3) w6 (by omega) (by omega) (by omega) I6.out.s)
          clear HN3 S6 hb6 I5
          go_wp2_with fail
          refine HN4.out.mono ?_
          rintro e w7 ⟨y, rfl, hy, S7, hb7⟩
          have I7 := Lib.hid (I6.out.next S7.out hb7)
          have hba7 := alloc_below w7 (.cells #[.int .i64 (x : Int), .int .i64 (y : Int)] 3)
          have I7a := Lib.hid (I7.out.step hba7)
          have HN5 := Lib.hid (HNx.out 2 (K' + 4) _ (by omega) (by omega) (by omega) I7a.out.s)
          have X7 := Lib.hid (Box.new w7 3 #[.int .i64 (x : Int), .int .i64 (y : Int)])
          have HB7 : Hid (b < w7.heap.size) := Lib.hid I7.out.s.lt
          clear HN4 S7 hb7 I6 I7 hba7
          go_wp2_with fail
          refine HN5.out.mono ?_
          rintro e w8 ⟨z, rfl, hz, S8, hb8⟩
          have I8 := Lib.hid (I7a.out.next S8.out hb8)
          have X8 := X7.out.btw hb8 (.inr (by have := HB7.out; omega))
          have x0 := X8.cell 0 rfl
          have x1 := X8.cell 1 rfl
          clear HN5 S8 hb8 I7a X7 X8
          have hz2 : z = 0 ∨ z = 1 := by omega
          rcases hz2 with rfl | rfl
          · go_wp2_with (at_builtin; refine wpList_app_ints rfl (.tmp 71) (.tmp 81) rfl I8.out [_] rfl 1 1 rfl rfl rfl (by omega) (by simp; try omega) ?_)
            intro A9 c9 w9 I9
            go_wp2
            go_roundw
            case rel => exact ⟨i - 1, _, _, _, by omega, by omega, by go_num, rfl, Lib.hid (I9.out.mono (by have := HKr.out; omega))⟩
            case measure => simp [intOf]; omega
          · go_wp2_with (at_builtin; refine wpList_app_ints rfl (.tmp 71) (.tmp 81) rfl I8.out [_] rfl 1 1 rfl rfl rfl (by omega) (by simp; try omega) ?_)
            intro A9 c9 w9 I9
            go_wp2
            go_roundw
            case rel => exact ⟨i - 1, _, _, _, by omega, by omega, by go_num, rfl, Lib.hid (I9.out.mono (by have := HKr.out; omega))⟩
            case measure => simp [intOf]; omega
    · have hi' : ¬ (0 : Int) < (i : Int) := by omega
      have HC1 := Lib.hid (HCh.out _ wr (by omega) I.out.s)
      go_wp2_with fail
      refine HC1.out.mono ?_
      rintro e w3 ⟨f, rfl, S3, hb3⟩
      have I3 := Lib.hid (I.out.next S3.out hb3)
      clear HC1 S3 hb3 I HNx HCh
      cases f
      · obtain ⟨ps, hl, hr⟩ := I3.out.i
        have HO : Hid (OwnI w3 w.heap.size w3.heap.size A' ps) := Lib.hid (GroI.own (base := w.heap.size) (n := k) (c := c') (by unfold GroI; rw [hl.1]; exact hr) (Nat.le_refl _))
        have HF : Hid (Src w3 b A n c zs (K + 200) ∧ Btw b (b + 1) w w3) := Lib.hid ⟨I3.out.s.mono (by omega), I3.out.btw⟩
        have HBy := Lib.hid hl.2
        obtain rfl := hl.1
        clear hr I3 hl
        go_wp2
        go_ret
        exact ⟨ps, A', c', Lib.hid ⟨by omega, HBy.out⟩, rfl, HO, HF⟩
      · go_wp2_with (at_builtin; refine wpList_app_ints rfl (.tmp 85) (.tmp 86) rfl I3.out [_] rfl 1 1 rfl rfl rfl (by omega) (by simp; try omega) ?_)
        intro A5 c5 w5 I5
        obtain ⟨ps, hl, hr⟩ := I5.out.i
        have HO : Hid (OwnI w5 w.heap.size w5.heap.size A5 ps) := Lib.hid (GroI.own (base := w.heap.size) (n := k + 1) (c := c5) (by unfold GroI; rw [hl.1]; exact hr) (Nat.le_refl _))
        have HF : Hid (Src w5 b A n c zs (K + 200) ∧ Btw b (b + 1) w w5) := Lib.hid ⟨I5.out.s.mono (by omega), I5.out.btw⟩
        have HLn : Hid (k + 1 = ps.length) := Lib.hid hl.1.symm
        have HBy := Lib.hid hl.2
        clear hr I5 I3 hl
        go_wp2
        go_ret
        exact ⟨ps, A5, c5, Lib.hid ⟨by have := HLn.out; omega, HBy.out⟩, congrArg (fun m => Ending.returned (Value.slice A5 m c5)) HLn.out, HO, HF⟩
end Go.Proofs.YtcchhbkbnbphhaaGreatDoor
