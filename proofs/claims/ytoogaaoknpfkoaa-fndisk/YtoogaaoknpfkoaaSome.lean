/- The model's source of draws: a text of n letters, fates. -/
import Derived.Test.YtoogaaoknpfkoaaDraw
import Derived.Laws.BytesArg
import Derived.OwnWalk
import Derived.Laws.OwnMore
namespace Go.Proofs.Ytoogaaoknpfkoaa
open Go.RowKit

theorem Src.below {w w' : World} {b B : Nat} {A : Option Addr} {n c : Nat} {zs : List Nat} {K : Nat} (h : Src w b A n c zs K) (hb : Below B w w') (ho : b < B) : Src w' b A n c zs K := by
  obtain ⟨k, sd, q1, q2, q3, q4, q5⟩ := h
  refine ⟨k, sd, q1.below hb ho, q2, q3, q4, fun i hi => ?_⟩
  obtain ⟨bb, off, e, p1, p2, p3⟩ := q5 i hi
  exact ⟨bb, off, e, p1, (hb.cell (by show bb < B; omega)).trans p2, p3⟩
theorem SrcX.below {w w' : World} {b B : Nat} {A : Option Addr} {n c : Nat} {zs : List Nat} {k sd : Nat} (h : SrcX w b A n c zs k sd) (hb : Below B w w') (ho : b < B) : SrcX w' b A n c zs k sd := by
  obtain ⟨q1, q3, q4, q5⟩ := h
  refine ⟨q1.below hb ho, q3, q4, fun i hi => ?_⟩
  obtain ⟨bb, off, e, p1, p2, p3⟩ := q5 i hi
  exact ⟨bb, off, e, p1, (hb.cell (by show bb < B; omega)).trans p2, p3⟩
theorem owns_keep {w w' : World} {base n : Nat} {e : TypeId} {size : Nat} {v : Value} {xs : List Value} (h : w.ownsRow base e size v n xs) (hk : ∀ k, base ≤ k → k < w.heap.size → w'.heap[k]? = w.heap[k]?) : w'.ownsRow base e size v n xs := by
  obtain ⟨h1, h0 | ⟨g, cap, cur, rfl, q1, q2, q3⟩⟩ := h
  · exact ⟨h1, .inl h0⟩
  · refine ⟨h1, .inr ⟨g, cap, cur, rfl, q1, ?_, q3⟩⟩
    have hlt : g < w.heap.size := by
      rcases Nat.lt_or_ge g w.heap.size with hlt | hge
      · exact hlt
      · rw [Array.getElem?_eq_none hge] at q2; cases q2
    rw [hk g q1 hlt]; exact q2
theorem owns_empty {w : World} {base g : Nat} {t : TypeId} (hb : base ≤ g) (hg : Box w g t #[]) : w.ownsRow base t 1 (.slice (some ⟨g, 0, none⟩) 0 0) 0 [] :=
  ⟨rfl, .inr ⟨g, 0, #[], rfl, hb, hg, Nat.le_refl _, Nat.zero_le _, rfl, rfl⟩⟩
theorem btw_grown {lo hi : Nat} {w w1 w2 : World} {r : Option Nat} (h : Btw lo hi w w1) (hg : w1.grownBy w2 r) (hr : ∀ k, r = some k → w.heap.size ≤ k) : Btw lo hi w w2 :=
  ⟨hg.os.trans h.os, hg.tape.trans h.tape, hg.output.trans h.output, Nat.le_trans h.size hg.size, fun k hk ho => (hg.block k (Nat.lt_of_lt_of_le hk h.size) (fun e => by have := hr k e.symm; omega)).trans (h.block k hk ho)⟩
set_option maxRecDepth 100000 in
theorem infoBx : ∃ i : TypeInfo, Try.prog.info? 5 = some i ∧ i.zero = some (.int .u8 0) ∧ i.size = 1 ∧ i.bytes = 1 := ⟨_, rfl, rfl, rfl, rfl⟩
set_option maxRecDepth 100000 in
theorem infoIx : ∃ i : TypeInfo, Try.prog.info? 3 = some i ∧ i.zero = some (.int .i64 0) ∧ i.size = 1 ∧ i.bytes = 8 := ⟨_, rfl, rfl, rfl, rfl⟩
theorem owns_form {w : World} {base n : Nat} {e : TypeId} {size : Nat} {v : Value} {xs : List Value} (h : w.ownsRow base e size v n xs) (hn : 0 < n) : ∃ g cap, v = .slice (some ⟨g, 0, none⟩) n cap ∧ base ≤ g ∧ g < w.heap.size := by
  rcases h.2 with ⟨_, h0⟩ | ⟨g, cap, cur, hv, hb, hg, _⟩
  · omega
  · refine ⟨g, cap, hv, hb, ?_⟩
    rcases Nat.lt_or_ge g w.heap.size with hlt | hge
    · exact hlt
    · rw [Array.getElem?_eq_none hge] at hg; cases hg
theorem ownBlock_ge1 {w : World} {base n : Nat} {e : TypeId} {size g cap : Nat} {xs : List Value} (h : w.ownsRow base e size (.slice (some ⟨g, 0, none⟩) n cap) n xs) : ∀ k, (Value.slice (some ⟨g, 0, none⟩) n cap).ownBlock = some k → base ≤ k := by
  intro k hk
  obtain ⟨h1, ⟨h0, _⟩ | ⟨g', cap', cur, hv, q1, q2⟩⟩ := h
  · simp at h0
  · injection hv with hv; injection hv with hv; injection hv with hv; subst hv; simp [Value.ownBlock] at hk; omega
theorem map_snoc {α β : Type} (f : α → β) (xs : List α) (x : α) : xs.map f ++ [f x] = (xs ++ [x]).map f := by simp
/-- The cells of a row that is owned. -/
theorem owns_cells {w : World} {base n : Nat} {e : TypeId} {g cap : Nat} {k : IntKind} {xs : List Int} (h : w.ownsRow base e 1 (.slice (some ⟨g, 0, none⟩) n cap) n (xs.map (Value.int k))) : ∀ i, i < n → w.cell? ⟨g, 0 + i, none⟩ = some (.int k (xs.getD i 0)) := by
  obtain ⟨h1, h0 | ⟨g', cap', cur, hv, q1, q2, q3, q4, q5, q6⟩⟩ := h
  · simp at h0
  · injection hv with hv; injection hv with hv; injection hv with hv; subst hv
    intro i hi
    simp at h1
    rw [Nat.zero_add, cell_of_row w g i cur e (0, 0) q2]
    have : (cur.toList.take (n * 1))[i]? = (xs.map (Value.int k))[i]? := by rw [q6]
    rw [List.getElem?_take, if_pos (by omega), Array.getElem?_toList] at this
    rw [this, List.getElem?_map, List.getElem?_eq_getElem (by omega), List.getD_eq_getElem?_getD, List.getElem?_eq_getElem (by omega)]
    rfl

set_option maxRecDepth 100000 in
set_option maxHeartbeats 4000000 in
theorem srcSome (N : Nat) (b : Nat) (A : Option Addr) (n c : Nat) (zs : List Nat) (K : Nat) (w : World) (hN : N ≤ 1000) (hK : K ≤ 1000000) (h : Src w b A n c zs K) :
    Calls Try.prog 77 #[.pointer (some ⟨b, 0, none⟩), .int .i64 (N : Nat)] w fun e w' => ∃ t : ByteArray, e = .returned (.string t) ∧ t.size = N ∧ Hid (Src w' b A n c zs (K + N)) ∧ Btw b (b + 1) w w' := by
  have hlt : b < w.heap.size := h.lt
  obtain ⟨i0, hi0, hz0, hz1, hz2⟩ := infoBx
  have HI := Lib.hid (And.intro hi0 (And.intro hz0 (And.intro hz1 hz2)))
  clear hi0 hz0 hz1 hz2
  have hb0 := alloc_below w (.cells #[] 5)
  have HS0 := Lib.hid (h.below hb0 hlt)
  have HB0 : Hid (Btw b (b + 1) w (w.alloc (.cells #[] 5))) := Lib.hid ((Btw.refl b (b + 1) w).alloc _)
  have HO0 := Lib.hid (owns_empty (base := w.heap.size) (Nat.le_refl _) (Box.new w 5 #[]))
  clear h hb0
  go_enter Try.func77, Try.ntmps77
  go_wp2
  generalize w.alloc (.cells #[] 5) = w0 at HS0 HB0 HO0 ⊢
  go_loopw [5, 6] (fun o q wr => ∃ (k g cap : Nat) (xs : List Int), k ≤ N ∧ o = .slice (some ⟨g, 0, none⟩) k cap ∧ q = .int .i64 k ∧ Hid (xs.length = k) ∧ Hid (wr.ownsRow w.heap.size 5 1 (.slice (some ⟨g, 0, none⟩) k cap) k (xs.map (Value.int .u8))) ∧ Hid (Src wr b A n c zs (K + k)) ∧ Btw b (b + 1) w wr) (fun _ q _ => N - (intOf q).toNat)
  case atStart => exact ⟨0, _, _, [], Nat.zero_le _, rfl, rfl, Lib.hid rfl, HO0, HS0, HB0.out⟩
  case round =>
    obtain ⟨k, g, cap, xs, hk, rfl, rfl, HL, HO, HS, hbw⟩ := hrel
    by_cases hkn : k < N
    · have hi : (k : Int) < (N : Int) := by omega
      have HC := Lib.hid (srcNext 26 b A n c zs (K + k) wr (by omega) (by omega) (by omega) HS.out)
      go_wp2_with fail
      refine HC.out.mono ?_
      rintro e w1 ⟨v, rfl, hv, S1, hb1⟩
      clear HC HS
      have HO1 := Lib.hid (owns_keep HO.out (fun j h1 h2 => hb1.block j h2 (.inr (by omega))))
      have HB1 := Lib.hid (hbw.trans hb1)
      have k2 := Lib.hid (alloc_below w1 (.cells #[.int .u8 (97 + (v : Int))] 5))
      have HOw := Lib.hid (owns_keep HO1.out (fun j _ h2 => k2.out.block j h2))
      have HNw : Hid (∀ j u, [Value.int .u8 (97 + (v : Int))][j]? = some u → (w1.alloc (.cells #[.int .u8 (97 + (v : Int))] 5)).cell? ((⟨w1.heap.size, 0, none⟩ : Addr).add j) = some u) := Lib.hid (fun j u hj => by
        have hB := Box.new w1 5 #[.int .u8 (97 + (v : Int))]
        match j, hj with
        | 0, hj => simp at hj; subst hj; exact hB.cell 0 rfl)
      have hw1 : w.heap.size ≤ w1.heap.size := HB1.out.size
      go_wp2_with (at_builtin; refine wpList_append_own _ rfl (.tmp 13) (.tmp 18) 22 rfl w.heap.size 5 i0 (.int .u8 0) 1 1 Try.underlying22 HI.out.1 HI.out.2.1 HI.out.2.2.1 HI.out.2.2.2 rfl (by decide) _ k (xs.map (Value.int .u8)) rfl ?hown ⟨w1.heap.size, 0, none⟩ 1 1 [.int .u8 (97 + (v : Int))] rfl rfl ?hnews ?hone ?h63 ?hby ?hbase ?_)
      case hown => exact HOw.out
      case hnews => exact HNw.out
      case hone => intro u hu; simp at hu; subst hu; rfl
      case h63 => unfold maxLen; omega
      case hby => omega
      case hbase => simp; omega
      intro v1 w4 hown hgr hniff
      rw [map_snoc (Value.int .u8)] at hown
      obtain ⟨gg, cap', hv1, p1, p2⟩ := owns_form hown (by omega)
      subst hv1
      have hge := ownBlock_ge1 HOw.out
      have HS4 := Lib.hid ((S1.out.below (k2.out.mono hw1) hlt).below (below_of_grown (B := w.heap.size) hgr hge (by simp; omega)) hlt)
      have HB4 := Lib.hid (btw_grown (HB1.out.alloc (.cells #[.int .u8 (97 + (v : Int))] 5)) hgr hge)
      have HO4 := Lib.hid hown
      clear hown hgr hniff hge k2 HOw HNw HO1 HB1 S1 hb1 HO
      go_wp2
      go_roundw
      case rel => exact ⟨k + 1, gg, cap', xs ++ [97 + (v : Int)], by omega, rfl, by go_num, Lib.hid (by rw [List.length_append, HL.out]; rfl), HO4, HS4, HB4.out⟩
      case measure => simp [intOf]; omega
    · have hi : ¬ (k : Int) < (N : Int) := by omega
      obtain rfl : k = N := by omega
      have hcv := (run_convert_bytes_arg (P := Try.prog) wr 22 5 Try.underlying22 Try.underlying5 g 0 k cap xs HL.out (owns_cells HO.out) 9 Try.underlying9)
      go_wp2
      refine bodyPost_ret (v := .string (strOfNums xs)) (by simp [results, Try.results77, go_sem]) rfl ?_
      exact ⟨_, rfl, by rw [strOfNums_size, HL.out], HS, hbw⟩
end Go.Proofs.Ytoogaaoknpfkoaa
