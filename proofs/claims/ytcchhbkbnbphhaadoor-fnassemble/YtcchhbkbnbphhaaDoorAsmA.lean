/- The program's Assemble: a range over the lines' iterator. -/
import Derived.Test.YtcchhbkbnbphhaaDoorAsmI
import Derived.Maps.AppendAt
import Derived.RangeFuncBox
namespace Go.Proofs.YtcchhbkbnbphhaaDoor
open Go.RowKit Go.Shelf

attribute [local go_sem] Oper.semAt_some
attribute [-go_sem] Builtin.append_

def allOk (pre : List InsX) : Prop := ∀ r ∈ pre, r.1.2 = true
def oneBad (pre : List InsX) : Prop := ∃ r, r ∈ pre ∧ r.1.2 = false
def codes (rs : List InsX) : List Int := rs.flatMap fun r => encL r.1.1.1 r.1.1.2.1 r.1.1.2.2
theorem codes_snoc (rs : List InsX) (r : InsX) : codes (rs ++ [r]) = codes rs ++ encL r.1.1.1 r.1.1.2.1 r.1.1.2.2 := by simp [codes]
theorem codes_insU (ss : List ByteArray) : ∀ k, codes (insU ss k) = cdK ss k
  | 0 => rfl
  | k + 1 => by rw [insU_succ, codes_snoc, codes_insU ss k]; rfl
theorem codes_len : ∀ rs : List InsX, (codes rs).length ≤ 3 * rs.length
  | [] => Nat.le_refl _
  | r :: rs => by
    have h1 := codes_len rs
    have h2 : (codes (r :: rs)).length = (encL r.1.1.1 r.1.1.2.1 r.1.1.2.2).length + (codes rs).length := by simp [codes]
    have h3 := lenT_range r.1.1.1
    rw [h2, encL_len, List.length_cons]; omega
theorem rdL_len (op : Nat) (b c : Int) : 1 ≤ (encL op b c).length ∧ (encL op b c).length ≤ 3 := by
  rw [encL_len]; have := lenT_range (op : Int); omega
theorem box_kept {W W' : World} {row : Option Nat} {b : Nat} {t : TypeId} {cs : Array Value} (h : Box W b t cs) (hg : W.grownBy W' row) (hr : ∀ r, row = some r → ∃ o : Obj, W.heap[r]? = some o ∧ o.isCells = false) : Box W' b t cs := by
  unfold Box at h ⊢
  refine (hg.block b (Array.getElem?_eq_some_iff.1 h).1 (fun e => ?_)).trans h
  obtain ⟨o, ho, hc⟩ := hr b e.symm
  rw [h] at ho; cases ho; cases hc


set_option maxRecDepth 100000 in
theorem Tryd.infoInt : (Tryd.prog.info? 3).map (fun i => (i.zero, i.size, i.bytes)) = some (some (.int .i64 0), 1, 8) := by kernel_rfl

theorem rowv_off {W : World} {N e k b : Nat} {v : Value} {xs : List Value} (h : W.ownsRow N e 1 v k xs) (hb : b < N) : some b ≠ v.ownBlock := by
  rcases h.2 with ⟨rfl, _⟩ | ⟨g, cap, cur, rfl, hg, _⟩
  · simp [Value.ownBlock]
  · simp [Value.ownBlock]; omega
theorem asm_step {W w1 w2 : World} {N m₀ b0 b1 b2 k m : Nat} {r0 c0 v v' : Value} {xs ys : List Value}
    (bR : Boxed W b0 26 r0) (bC : Boxed W b1 3 c0) (bL : Boxed W b2 26 v) (hrow : W.ownsRow N 3 1 v k xs) (hN : N ≤ W.heap.size) (hm : m₀ ≤ b2) (h2 : b2 < N) (h1 : b1 < N) (h0 : b0 < N) (h02 : b0 ≠ b2) (h12 : b1 ≠ b2)
    (hb : Below W.heap.size W w1) (hrow1 : w1.ownsRow N 3 1 v k xs) (hgrow : w1.grownBy w2 v.ownBlock) (hown' : w2.ownsRow N 3 1 v' m ys) :
    KeepsOthers W (w2.setCell ⟨b2, 0, none⟩ v') ∧ KpM m₀ W (w2.setCell ⟨b2, 0, none⟩ v') ∧ (Boxed (w2.setCell ⟨b2, 0, none⟩ v') b0 26 r0 ∧ Boxed (w2.setCell ⟨b2, 0, none⟩ v') b1 3 c0) ∧ (Boxed (w2.setCell ⟨b2, 0, none⟩ v') b2 26 v' ∧ (w2.setCell ⟨b2, 0, none⟩ v').ownsRow N 3 1 v' m ys) ∧ W.heap.size ≤ (w2.setCell ⟨b2, 0, none⟩ v').heap.size ∧ Boxed w2 b2 26 v := by
  have g1 := grown_of hb
  have n2 := rowv_off hrow1 h2
  have k1 : KeepsOthers W w1 := ⟨hb.size, fun j o hk _ => (hb.block j (Array.getElem?_eq_some_iff.1 hk).1).trans hk⟩
  have k2 : KeepsOthers w1 w2 := KeepsOthers.of_grownBy hgrow fun j o ej hj => by
    rcases hrow1.2 with ⟨rfl, _⟩ | ⟨g, cap, cur, rfl, _, hgb, _⟩
    · simp [Value.ownBlock] at ej
    · obtain rfl : g = j := by simpa [Value.ownBlock] using ej
      rw [hgb] at hj; cases hj; rfl
  have K := (k1.trans k2).trans (KeepsOthers.setCell w2 ⟨b2, 0, none⟩ v')
  have B1 : Below m₀ W w1 := hb.mono (by omega)
  have B2 : Below m₀ w1 w2 := (Below.refl m₀ w1).grown hgrow (by have := hb.size; omega) fun j ej => by
    have := rowv_off (b := j) hrow1
    by_cases hj : j < N
    · exact absurd ej.symm (this hj)
    · omega
  have r := ((bR.kept g1 (by simp)).kept hgrow (rowv_off hrow1 h0)).other h02 v'
  have c := ((bC.kept g1 (by simp)).kept hgrow (rowv_off hrow1 h1)).other h12 v'
  have l := ((bL.kept g1 (by simp)).kept hgrow n2).set v'
  refine ⟨K, ⟨(B1.trans B2).setCell (p := ⟨b2, 0, none⟩) hm _, ⟨K.size, fun j o hk ho => K.same j o hk (Obj.not_cells_of_walk ho)⟩⟩, ⟨r, c⟩, ⟨l, hown'.kept (grownBy_setCell' w2 b2 v') (.inr (rowv_off hown' h2).symm)⟩, K.size, (bL.kept g1 (by simp)).kept hgrow n2⟩

set_option maxHeartbeats 8000000 in
set_option maxRecDepth 100000 in
theorem asmI (A : Option Addr) (n c : Nat) (ss : List ByteArray) (w : World) (hn : ss.length = n) (hm : n ≤ 1048576) (hx : ∀ x ∈ ss, x.size ≤ 1048576) (h : StrL w A ss) (ht : OpsT w) : Calls Tryd.prog 18 #[.slice A n c] w (GivesLC (asmF ss) w) := by
  obtain ⟨i0, hi, hz0, hz1, hz2⟩ := info_parts Tryd.infoInt
  refine (callsIn_wide (n := 9)).1 ?_
  refine callsIn_of_wp_marks Tryd.func18 rfl trivial ?_ rfl
  simp only [Tryd.ntmps18, List.size_toArray, List.length_cons, List.length_nil, Nat.reduceAdd, Nat.reduceSub, Array.replicate_succ, Array.replicate_zero, List.push_toArray, List.append_toArray, List.nil_append, List.cons_append]
  by_cases hl : 4096 < n
  · have i1 : (4096 : Int) < (n : Int) := by omega
    have HF := Lib.hid (asm_long (ss := ss) (by rw [hn]; exact hl))
    gi_wp2
    refine ⟨.tuple #[.slice none 0 0, .int .i64 2], by simp [results, Tryd.results18, go_sem], ?_⟩
    rw [HF.out]
    exact ⟨_, _, _, rfl, rfl, Lib.hid (.inl rfl), bt (alloc_below _ _) (alloc_below _ _)⟩
  · have i1 : ¬ (4096 : Int) < (n : Int) := by omega
    gi_wp2
    refine ⟨trivial, ?_⟩
    refine (callsIn_wide.2 (linesOf A n c _)).mono ?_
    rintro e w' ⟨rfl, rfl⟩
    have bR := (((Boxed.new w 26 (.slice none 0 0)).alloc (.cells #[.int .i64 0] 3)).alloc (.cells #[.slice none 0 0] 26)).alloc (.cells #[.slice A n c] 40)
    have bC := ((Boxed.new (w.alloc (.cells #[.slice none 0 0] 26)) 3 (.int .i64 0)).alloc (.cells #[.slice none 0 0] 26)).alloc (.cells #[.slice A n c] 40)
    have bL := (Boxed.new ((w.alloc (.cells #[.slice none 0 0] 26)).alloc (.cells #[.int .i64 0] 3)) 26 (.slice none 0 0)).alloc (.cells #[.slice A n c] 40)
    have bS := Boxed.new (((w.alloc (.cells #[.slice none 0 0] 26)).alloc (.cells #[.int .i64 0] 3)).alloc (.cells #[.slice none 0 0] 26)) 40 (.slice A n c)
    simp only [World.size_alloc] at bC bL bS
    have hB0 : Below w.heap.size w ((((w.alloc (.cells #[.slice none 0 0] 26)).alloc (.cells #[.int .i64 0] 3)).alloc (.cells #[.slice none 0 0] 26)).alloc (.cells #[.slice A n c] 40)) := ((((Below.refl _ w).alloc (Nat.le_refl _) _).alloc (by simp) _).alloc (by simp; omega) _).alloc (by simp; omega) _
    have hsz : ((((w.alloc (.cells #[.slice none 0 0] 26)).alloc (.cells #[.int .i64 0] 3)).alloc (.cells #[.slice none 0 0] 26)).alloc (.cells #[.slice A n c] 40)).heap.size = w.heap.size + 4 := by simp
    simp only [World.size_alloc]
    obtain ⟨W0, hW0⟩ : ∃ W0, ((((w.alloc (.cells #[.slice none 0 0] 26)).alloc (.cells #[.int .i64 0] 3)).alloc (.cells #[.slice none 0 0] 26)).alloc (.cells #[.slice A n c] 40)) = W0 := ⟨_, rfl⟩
    rw [hW0] at bR bC bL bS hB0 hsz
    gi_wp2
    rw [hW0]
    clear hW0
    refine wpIn_rangeFunc_ownH rfl (by omega) (gf := 53) (lb := #[.pointer (some ⟨w.heap.size + 1 + 1 + 1, 0, none⟩)]) rfl trivial (enters_of Tryd.func53 (by kernel_rfl) rfl)
      (lines_stops 8 (w.heap.size + 1 + 1 + 1) n c (by omega) A ss w W0 hn hx hm h ht hB0 bS.cell) KpM.t (KpM.b (by omega)) (Below.refl _ _) (fun _ => rfl)
      (fun pre W => ((Boxed W w.heap.size 26 (.slice none 0 0) ∧ Boxed W (w.heap.size + 1) 3 (.int .i64 0)) ∧ (∃ v, Boxed W (w.heap.size + 1 + 1) 26 v ∧ W.ownsRow W0.heap.size 3 1 v (codes pre).length ((codes pre).map (Value.int .i64)) ∧ True)) ∧ (Below w.heap.size w W ∧ (W0.heap.size ≤ W.heap.size ∧ allOk pre)))
      (fun cd pre W => cd = .ret ∧ ((Boxed W w.heap.size 26 (.slice none 0 0) ∧ Boxed W (w.heap.size + 1) 3 (.int .i64 3)) ∧ (Below w.heap.size w W ∧ oneBad pre)))
      (OwnFrom.and (OwnFrom.and (OwnFrom.and (Own.from (boxed_own _ _ _) _) (Own.from (boxed_own _ _ _) _)) (Own.from (holdsRow_own W0.heap.size (w.heap.size + 1 + 1) 26 3 1 (fun pre => (codes pre).length) (fun pre => (codes pre).map (Value.int .i64)) (fun _ _ => True)) _)) (OwnFrom.and (ownFrom_below (Nat.le_refl _) (by omega)) (OwnFrom.and (fun _ _ _ _ hs hg _ => Nat.le_trans hs hg.size) (ownFrom_pure _ _))))
      (fun cd => OwnFrom.and (ownFrom_pure _ (fun _ => cd = .ret)) (OwnFrom.and (OwnFrom.and (Own.from (boxed_own _ _ _) _) (Own.from (boxed_own _ _ _) _)) (OwnFrom.and (ownFrom_below (Nat.le_refl _) (by omega)) (ownFrom_pure _ _))))
      ⟨⟨⟨bR, bC⟩, _, bL, World.ownsRow_nil _ _ _ _, trivial⟩, hB0, Nat.le_refl _, by intro r hr; cases hr⟩
      (fun x a' W => ∃ Bx, w.heap.size + 1 + 1 < Bx ∧ Box W Bx 24 #[.int .i64 x.1.1.1, .int .i64 x.1.1.2.1, .int .i64 x.1.1.2.2] ∧ a' = { tmps := #[.slice A n c, undef, .pointer (some ⟨w.heap.size, 0, none⟩), .pointer (some ⟨w.heap.size + 1, 0, none⟩), .pointer (some ⟨w.heap.size + 1 + 1, 0, none⟩), .pointer (some ⟨Bx, 0, none⟩), .bool x.1.2, .slice A n c, .int .i64 n, .bool false, .slice A n c, .func (.func 53) #[] #[.pointer (some ⟨w.heap.size + 1 + 1 + 1, 0, none⟩)], .agg #[.int .i64 x.1.1.1, .int .i64 x.1.1.2.1, .int .i64 x.1.1.2.2], .bool x.1.2, undef, undef, undef, undef, undef, undef, undef, undef, undef, undef], defers := [] })
      (fun x a' _ X Y row hs hg hr => by obtain ⟨Bx, h1, h2, h3⟩ := hs; exact ⟨Bx, h1, box_kept h2 hg (fun r e => (hr r e).2), h3⟩)
      ?assign ?body ?done ?stop
    case assign =>
      rintro l pre ⟨⟨⟨a, bb, cc⟩, ok⟩, hok⟩ W K ⟨⟨⟨bR1, bC1⟩, v, bL1, hrow, _⟩, hB1, hs1, hall⟩ hK
      dsimp only [insV]
      gi_wp2
      exact hK _ _ ((KeepsOthers.alloc _ _).from _) ⟨(Below.refl _ W).alloc hB1.size _, KeepsWalks.alloc _ _⟩ ⟨⟨⟨bR1.alloc _, bC1.alloc _⟩, v, bL1.alloc _, hrow.alloc _, trivial⟩, hB1.alloc hB1.size _, by simp; omega, hall⟩ ⟨W.heap.size, bL1.lt, Box.new _ _ _, rfl⟩
    case body =>
      rintro l pre ⟨⟨⟨a, bb, cc⟩, ok⟩, hok⟩ a' W hl0 ⟨rr, hrr⟩ ⟨⟨⟨bR1, bC1⟩, v, bL1, hrow, _⟩, hB1, hs1, hall⟩ ⟨Bx, hBx, bX, rfl⟩ hlt
      cases ok with
      | false =>
        have c0 := bR1.cell
        have c1 := bC1.cell
        have f0 := bR1.frozen
        have f1 := bC1.frozen
        gi_wp2
        exact ⟨((KeepsOthers.setCell _ _ _).trans (KeepsOthers.setCell _ _ _)).from _, rfl, ⟨(bR1.set _).other (by omega) _, (bC1.other (by omega) _).set _⟩, (hB1.setCell (p := ⟨w.heap.size, 0, none⟩) (Nat.le_refl _) _).setCell (p := ⟨w.heap.size + 1, 0, none⟩) (by show _ ≤ w.heap.size + 1; omega) _, _, List.mem_append_right _ (List.mem_singleton.2 rfl), rfl⟩
      | true =>
        obtain ⟨h1, h2, h3, h4, h5, h6⟩ := okIns_iff (hok rfl)
        dsimp only at h1 h2 h3 h4 h5 h6
        have h7 := regT_range a
        have h8 := argT_range a
        have HCd : Hid (codes (pre ++ [⟨((a, bb, cc), true), hok⟩]) = codes pre ++ encL a bb cc) := Lib.hid (codes_snoc _ _)
        obtain ⟨op, rfl⟩ : ∃ op : Nat, a = op := ⟨a.toNat, by omega⟩
        have HBy := Lib.hid (fun W t => insBytes op bb cc W t (by omega) h3 (by omega) h5 (by omega))
        have hTW := ht.below hB1
        clear h1 h2 h3 h4 h5 h6 h7 h8
        have c2 := bL1.cell
        have f2 := bL1.frozen
        have x0 := bX.cell 0 rfl
        have x1 := bX.cell 1 rfl
        have x2 := bX.cell 2 rfl
        have hmx : Tryd.prog.follows .mixedOrders = true := by kernel_rfl
        have c2d : W.drew.cell? ⟨w.heap.size + 1 + 1, 0, none⟩ = some v := c2
        have hTd : OpsT W.drew := ht.below hB1.drew
        have hlv : (codes pre).length ≤ 3 * n := by have := codes_len pre; omega
        gi_wp2
        gi_region_with_o (first | (refine ⟨trivial, ?_⟩; gi_at_call 24; refine (CallsIn.inRound l (callsIn_wide.2 (HBy.out W.drew hTd))).mono ?_; rintro e w1 ⟨A4, n4, c4, rfl, hl4, HO4, hb⟩; have c2e := (hb.cell (p := ⟨w.heap.size + 1 + 1, 0, none⟩) (cell_lt c2d)).trans c2d; have hrow1 := rowv_below (show W.drew.ownsRow _ _ _ _ _ _ from hrow) hb; have hle3 := rdL_len op bb cc; obtain ⟨ab, rfl, hcs⟩ := own_cells HO4.out (by omega); obtain ⟨v', w2, hrun, hown', hgrow, _⟩ := run_append_own (P := Tryd.prog) w1 W0.heap.size 26 26 3 i0 (.int .i64 0) 1 8 Tryd.underlying26 hi hz0 hz1 hz2 rfl (by decide) v _ _ hrow1 ⟨ab, 0, none⟩ n4 c4 ((encL op bb cc).map (Value.int .i64)) (by rw [List.length_map]; omega) hcs (by intro u hu; rw [List.mem_map] at hu; obtain ⟨z, _, rfl⟩ := hu; rfl) (by unfold maxLen; omega) (by omega) (Nat.le_trans hs1 hb.size); obtain ⟨A5, cap5, rfl, _⟩ := rowv_form hown'; obtain ⟨hK, hKp, hRC, hL2, hsz2, bLw⟩ := asm_step (m₀ := w.heap.size) (b2 := w.heap.size + 1 + 1) (show Boxed W.drew _ _ _ from bR1) (show Boxed W.drew _ _ _ from bC1) (show Boxed W.drew _ _ _ from bL1) (show W.drew.ownsRow _ _ _ _ _ _ from hrow) hs1 (by omega) (by omega) (by omega) (by omega) (by omega) (by omega) hb hrow1 hgrow hown'; have c2f := bLw.cell; have f2f := bLw.frozen))
        all_goals gi_wp2
        all_goals
          refine ⟨⟨hK.size, fun k o _ hk ho => hK.same k o hk ho⟩, ⟨(Below.refl _ W).drew.trans hKp.1, ⟨hKp.2.size, hKp.2.same⟩⟩, ⟨⟨hRC, _, hL2.1, ?_, trivial⟩, (hB1.drew).trans hKp.1, Nat.le_trans hs1 hsz2, ?_⟩⟩
          · rw [HCd.out, List.length_append, hl4, List.map_append]; exact hL2.2
          · intro r hr
            rcases List.mem_append.1 hr with h | h
            · exact hall r h
            · rw [List.mem_singleton.1 h]
    case done =>
      rintro D ys W hD rfl ⟨⟨⟨bR1, bC1⟩, v, bL1, hrow, _⟩, hB1, hs1, hall⟩ hK
      rw [codes_insU] at hrow
      obtain ⟨A5, cap5, rfl, _⟩ := rowv_form hrow
      have HAll : Hid (∀ k, k < ss.length → (rdF (ss.getD k ByteArray.empty)).2 = true) := Lib.hid (fun k hk => hall (rdX (ss.getD k ByteArray.empty)) (List.mem_map.2 ⟨k, List.mem_range.2 (by omega), rfl⟩))
      have hN : ¬ 4096 < ss.length := by omega
      have c0 := bR1.cell
      have c1 := bC1.cell
      have c2 := bL1.cell
      have f0 := bR1.frozen
      have f1 := bC1.frozen
      have hbd : (cdK ss n).length ≤ 3 * n := cdK_len ss n
      by_cases hz : 256 < (cdK ss n).length
      · have i3 : (256 : Int) < ((cdK ss n).length : Int) := by omega
        have HF := Lib.hid (asm_size hN HAll.out (by rw [hn]; exact hz))
        gi_wp2
        have hK' := ((KeepsOthers.setCell W ⟨w.heap.size, 0, none⟩ (.slice none 0 0)).trans (KeepsOthers.setCell _ ⟨w.heap.size + 1, 0, none⟩ (.int .i64 8))).same D _ hK rfl
        refine ⟨by simp, .inl ⟨_, _, rfl, run_takeDeferred hK', ?_⟩⟩
        have e0 := cell_kept (((bR1.set (.slice none 0 0)).other (B' := w.heap.size + 1) (by omega) (.int .i64 8)).cell) (grownBy_putObj' _ D (.deferred none)) (fun r e => by cases e; exact ⟨_, hK', rfl⟩)
        have e1 := cell_kept (((bC1.other (B' := w.heap.size) (by omega) (.slice none 0 0)).set (.int .i64 8)).cell) (grownBy_putObj' _ D (.deferred none)) (fun r e => by cases e; exact ⟨_, hK', rfl⟩)
        refine ⟨.tuple #[.slice none 0 0, .int .i64 8], by simp [results, Tryd.results18, go_sem, e0, e1], ?_⟩
        rw [HF.out]
        exact ⟨_, _, _, rfl, rfl, Lib.hid (.inl rfl), ((hB1.setCell (p := ⟨w.heap.size, 0, none⟩) (Nat.le_refl _) _).setCell (p := ⟨w.heap.size + 1, 0, none⟩) (by show _ ≤ w.heap.size + 1; omega) _).trans (belowK_b (w := w) (Nat.le_refl _) _ D _ _ (by omega) hK' rfl rfl)⟩
      · have i3 : ¬ (256 : Int) < ((cdK ss n).length : Int) := by omega
        have HF := Lib.hid (asm_yes hN HAll.out (by rw [hn]; exact hz))
        rw [hn] at HF
        gi_wp2
        have hK' := ((KeepsOthers.setCell W ⟨w.heap.size, 0, none⟩ (.slice A5 (cdK ss n).length cap5)).trans (KeepsOthers.setCell _ ⟨w.heap.size + 1, 0, none⟩ (.int .i64 0))).same D _ hK rfl
        refine ⟨by simp, .inl ⟨_, _, rfl, run_takeDeferred hK', ?_⟩⟩
        have e0 := cell_kept (((bR1.set (.slice A5 (cdK ss n).length cap5)).other (B' := w.heap.size + 1) (by omega) (.int .i64 0)).cell) (grownBy_putObj' _ D (.deferred none)) (fun r e => by cases e; exact ⟨_, hK', rfl⟩)
        have e1 := cell_kept (((bC1.other (B' := w.heap.size) (by omega) (.slice A5 (cdK ss n).length cap5)).set (.int .i64 0)).cell) (grownBy_putObj' _ D (.deferred none)) (fun r e => by cases e; exact ⟨_, hK', rfl⟩)
        have hr1 := hrow.kept (grownBy_setCell' W w.heap.size (.slice A5 (cdK ss n).length cap5)) (.inr (rowv_off hrow (by omega)).symm)
        have hr2 := hr1.kept (grownBy_setCell' _ (w.heap.size + 1) (.int .i64 0)) (.inr (rowv_off hr1 (by omega)).symm)
        have hr3 := ownsRow_putObj hr2 (.deferred none) hK' rfl
        refine ⟨.tuple #[.slice A5 (cdK ss n).length cap5, .int .i64 0], by simp [results, Tryd.results18, go_sem, e0, e1], ?_⟩
        rw [HF.out]
        exact ⟨_, _, _, rfl, rfl, Lib.hid (GroI.own (base := W0.heap.size) (n := (cdK ss n).length) (c := cap5) hr3 (by omega)), ((hB1.setCell (p := ⟨w.heap.size, 0, none⟩) (Nat.le_refl _) _).setCell (p := ⟨w.heap.size + 1, 0, none⟩) (by show _ ≤ w.heap.size + 1; omega) _).trans (belowK_b (w := w) (Nat.le_refl _) _ D _ _ (by omega) hK' rfl rfl)⟩
    case stop =>
      rintro D cd pre W hD ⟨k, hk, rfl⟩ ⟨rfl, ⟨bR1, bC1⟩, hB1, r, hr, hbad⟩ hK
      obtain ⟨j, hj, rfl⟩ := List.mem_map.1 hr
      have hjk := List.mem_range.1 hj
      have HF := Lib.hid (asm_no (ss := ss) (k := j) (by omega) (by omega) hbad)
      gi_wp2
      refine ⟨by simp, .inl ⟨_, _, rfl, run_takeDeferred hK, ?_⟩⟩
      have e0 := cell_kept bR1.cell (grownBy_putObj' _ D (.deferred none)) (fun r e => by cases e; exact ⟨_, hK, rfl⟩)
      have e1 := cell_kept bC1.cell (grownBy_putObj' _ D (.deferred none)) (fun r e => by cases e; exact ⟨_, hK, rfl⟩)
      refine ⟨.tuple #[.slice none 0 0, .int .i64 3], by simp [results, Tryd.results18, go_sem, e0, e1], ?_⟩
      rw [HF.out]
      exact ⟨_, _, _, rfl, rfl, Lib.hid (.inl rfl), hB1.trans (belowK_b (w := w) (Nat.le_refl _) W D _ _ (by omega) hK rfl rfl)⟩
end Go.Proofs.YtcchhbkbnbphhaaDoor
