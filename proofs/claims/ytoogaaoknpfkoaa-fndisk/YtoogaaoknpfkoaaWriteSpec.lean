/- Contracts of the model's l01Write and of spec.WriteDisk. -/
import Derived.Test.YtoogaaoknpfkoaaOwnSpec
namespace Go.Proofs.Ytoogaaoknpfkoaa
open Go.RowKit

theorem own_emptyW {w : World} {base g : Nat} (hb : base ≤ g) (hg : Box w g 90 #[]) : w.ownsRow base 90 2 (.slice (some ⟨g, 0, none⟩) 0 0) 0 (cellsW []) :=
  ⟨rfl, .inr ⟨g, 0, #[], rfl, hb, hg, Nat.le_refl _, Nat.zero_le _, rfl, rfl⟩⟩
theorem ownsRow_lower {w : World} {base base' n : Nat} {e : TypeId} {size : Nat} {v : Value} {xs : List Value} (h : w.ownsRow base e size v n xs) (hb : base' ≤ base) : w.ownsRow base' e size v n xs := by
  obtain ⟨h1, h0 | ⟨g, cap, cur, rfl, q1, q2⟩⟩ := h
  · exact ⟨h1, .inl h0⟩
  · exact ⟨h1, .inr ⟨g, cap, cur, rfl, by omega, q2⟩⟩
theorem owns_new {w w' : World} {g base n cap : Nat} {A' : Option Addr} {ws : List (Int × ByteArray)} (hl : ws.length = n) (hg : Box w g 90 #[]) (hb : base ≤ g) (h : n = 0 ∧ A' = some ⟨g, 0, none⟩ ∧ cap = 0 ∧ w' = w ∨ 0 < n ∧ w'.ownsRow w.heap.size 90 2 (.slice A' n cap) n (cellsW ws)) : w'.ownsRow base 90 2 (.slice A' n cap) n (cellsW ws) := by
  rcases h with ⟨h0, rfl, rfl, rfl⟩ | ⟨hn, h⟩
  · obtain rfl : ws = [] := List.eq_nil_of_length_eq_zero (by omega)
    subst h0
    exact own_emptyW hb hg
  · have := hg.lt
    exact ownsRow_lower h (by omega)
theorem ownBlock_ge {w : World} {base n cap : Nat} {e : TypeId} {size : Nat} {A : Option Addr} {xs : List Value} (h : w.ownsRow base e size (.slice A n cap) n xs) : ∀ k, (Value.slice A n cap).ownBlock = some k → base ≤ k := by
  intro k hk
  obtain ⟨h1, ⟨h0, _⟩ | ⟨g, cap', cur, hv, q1, q2⟩⟩ := h
  · injection h0 with h0; subst h0; simp [Value.ownBlock] at hk
  · injection hv with hv; subst hv; simp [Value.ownBlock] at hk; omega

/-- A disk whose sectors are the argument's own. -/
def GivesWrite (A : Option Addr) (n c m : Nat) (rw' : List (Int × ByteArray)) (w : World) (e : Ending) (w' : World) : Prop :=
  ∃ C' d', e = .returned (.agg #[.slice A n c, .slice C' m d']) ∧ Hid (OwnW w' w.heap.size w'.heap.size C' rw') ∧ Below w.heap.size w w'

set_option maxRecDepth 100000 in
set_option maxHeartbeats 4000000 in
theorem l01Write (A C : Option Addr) (n c m d : Nat) (ws : List (Int × ByteArray)) (a : Int) (t : ByteArray) (w : World) (hm : ws.length = m) (hmm : m ≤ 60) (g : WrL w C ws) :
    Calls Try.prog 134 #[.agg #[.slice A n c, .slice C m d], .int .i64 a, .string t] w (GivesWrite A n c (m + 1) (ws ++ [(a, t)]) w) := by
  have HL := Lib.hid hm
  have HSw := Lib.hid (fun W (hb : Below w.heap.size w W) => srcW hm g hb)
  have HCw : Hid ((cellsW ws).length = m * 2) := Lib.hid (by rw [cellsW_len]; omega)
  clear hm g
  obtain ⟨i1, hi0, hz0, hz1, hz2⟩ := infoWx
  have HJ := Lib.hid (And.intro hi0 (And.intro hz0 (And.intro hz1 hz2)))
  clear hi0 hz0 hz1 hz2
  obtain ⟨W0, hW0⟩ : ∃ W0, W0 = (((w.alloc (.cells #[.slice A n c, .slice C m d] 26)).alloc (.cells #[.slice none 0 0, .slice none 0 0] 26)).alloc (.cells #[] 90)) := ⟨_, rfl⟩
  have hb0 : Below w.heap.size w W0 := by rw [hW0]; exact bt (bt (alloc_below _ _) (alloc_below _ _)) (alloc_below _ _)
  have hs0 : W0.heap.size = w.heap.size + 1 + 1 + 1 := by rw [hW0]; simp
  have X0 : Box W0 w.heap.size 26 #[.slice A n c, .slice C m d] := by rw [hW0]; exact ((Box.new _ _ _).alloc _).alloc _
  have Y0 : Box W0 (w.heap.size + 1) 26 #[.slice none 0 0, .slice none 0 0] := by rw [hW0]; simpa using (Box.new (w.alloc (.cells #[.slice A n c, .slice C m d] 26)) 26 #[.slice none 0 0, .slice none 0 0]).alloc (.cells #[] 90)
  have Z0 : Box W0 (w.heap.size + 1 + 1) 90 #[] := by rw [hW0]; simpa using Box.new ((w.alloc (.cells #[.slice A n c, .slice C m d] 26)).alloc (.cells #[.slice none 0 0, .slice none 0 0] 26)) 90 #[]
  have HZ := Lib.hid Z0
  have HX := Lib.hid (And.intro X0 Y0)
  have HS0 := Lib.hid hs0
  have HSrc := Lib.hid (HSw.out W0 hb0)
  have HB0 := Lib.hid hb0
  have HW0 := Lib.hid hW0
  clear hW0 X0 Y0 Z0 hs0 hb0 HSw
  go_enter Try.func134, Try.ntmps134
  go_wp2_with (at_builtin; refine wpList_app_new rfl (.tmp 7) (.tmp 9) 24 rfl 90 i1 (.agg #[.int .i64 0, .string ByteArray.empty]) 2 24 Try.underlying24 HJ.out.1 HJ.out.2.1 HJ.out.2.2.1 HJ.out.2.2.2 rfl (by decide) ⟨w.heap.size + 1 + 1, 0, none⟩ rfl C m d (cellsW ws) rfl HCw.out ?hsrc ?h63 ?hby ?_)
  case hsrc => rw [← HW0.out]; exact HSrc.out
  case h63 => unfold maxLen; omega
  case hby => omega
  rw [← HW0.out]
  intro A1 cap1 w1 hb1x O1
  have hb1 : Below W0.heap.size W0 w1 := by rw [HS0.out]; exact hb1x
  have HO1 := Lib.hid (owns_new (base := w.heap.size + 1 + 1) HL.out HZ.out (Nat.le_refl _) (by rw [HS0.out]; exact O1.out))
  have HX1 := Lib.hid (And.intro (HX.out.1.step hb1) (HX.out.2.step hb1))
  have hb2 := Lib.hid (bt HB0.out hb1)
  have HS1 : Hid (w.heap.size + 1 + 1 + 1 ≤ w1.heap.size) := Lib.hid (by have := hb1.size; have := HS0.out; omega)
  clear O1 hb1 hb1x HX HZ HSrc HW0 HS0 HB0 W0
  have k2 := Lib.hid (alloc_below w1 (.cells #[.int .i64 a, .string t] 90))
  have HOw : Hid ((w1.alloc (.cells #[.int .i64 a, .string t] 90)).ownsRow (w.heap.size + 1 + 1) 90 2 (.slice A1 m cap1) m (cellsW ws)) := Lib.hid (by
    obtain ⟨q1, h0 | ⟨gq, cq, cur, hv, q2, q3, q4⟩⟩ := HO1.out
    · exact ⟨q1, .inl h0⟩
    · refine ⟨q1, .inr ⟨gq, cq, cur, hv, q2, ?_, q4⟩⟩
      rw [k2.out.block gq (by rcases Nat.lt_or_ge gq w1.heap.size with hlt | hge; exact hlt; rw [Array.getElem?_eq_none hge] at q3; cases q3)]
      exact q3)
  have HNw : Hid (∀ j u, [Value.int .i64 a, Value.string t][j]? = some u → (w1.alloc (.cells #[.int .i64 a, .string t] 90)).cell? ((⟨w1.heap.size, 0, none⟩ : Addr).add j) = some u) := Lib.hid (fun j u hj => by
    have hB := Box.new w1 90 #[.int .i64 a, .string t]
    match j, hj with
    | 0, hj => simp at hj; subst hj; exact hB.cell 0 rfl
    | 1, hj => simp at hj; subst hj; exact hB.cell 1 rfl)
  go_wp2_with (at_builtin; refine wpList_append_own _ rfl (.tmp 10) (.tmp 14) 24 rfl (w.heap.size + 1 + 1) 90 i1 (.agg #[.int .i64 0, .string ByteArray.empty]) 2 24 Try.underlying24 HJ.out.1 HJ.out.2.1 HJ.out.2.2.1 HJ.out.2.2.2 rfl (by decide) _ m (cellsW ws) rfl ?hown ⟨w1.heap.size, 0, none⟩ 1 1 [.int .i64 a, .string t] rfl rfl ?hnews ?hone ?h63 ?hby ?hbase ?_)
  case hown => exact HOw.out
  case hnews => exact HNw.out
  case hone => intro u hu; simp at hu; rcases hu with rfl | rfl <;> rfl
  case h63 => unfold maxLen; omega
  case hby => omega
  case hbase => have := HS1.out; simp; omega
  intro v1 w4 hown hgr hniff
  rw [cellsW_snoc] at hown
  obtain ⟨gg, cap, hv, p1, p2, p3, p4⟩ := ownW_of_owns hown (by omega)
  rw [hv]
  have hge := ownBlock_ge HOw.out
  have hb5 : Below (w.heap.size + 1 + 1) (w1.alloc (.cells #[.int .i64 a, .string t] 90)) w4 := below_of_grown hgr hge (by have := HS1.out; simp; omega)
  have X4 : Box w4 w.heap.size 26 #[.slice A n c, .slice C m d] := (HX1.out.1.step k2.out).below hb5 (by omega)
  have Y4 : Box w4 (w.heap.size + 1) 26 #[.slice none 0 0, .slice none 0 0] := (HX1.out.2.step k2.out).below hb5 (by omega)
  have HB6 := Lib.hid ((bt hb2.out k2.out).trans (hb5.mono (by omega)))
  have HP4 := Lib.hid (p4 gg (gg + 1) (Nat.le_refl _) (by omega))
  have HG : Hid (w.heap.size + 1 + 1 ≤ gg ∧ gg < w4.heap.size) := Lib.hid ⟨p1, p2⟩
  have f0 := X4.cell 0 rfl
  have f1 := X4.cell 1 rfl
  have f2 := X4.frozen 1
  have y0 := Y4.cell 0 rfl
  have y1 := Y4.cell 1 rfl
  have y2 := Y4.frozen 0
  have y3 := Y4.frozen 1
  clear hown hgr hniff hv p1 p2 p3 p4 hge hb5 X4 Y4 k2 HOw HNw HX1 HJ i1 v1 HO1
  go_wp2
  refine bodyPost_ret (v := .agg #[.slice A n c, .slice (some ⟨gg, 0, none⟩) (m + 1) cap]) (by simp [results, Try.results134, go_sem, y0, y1]) rfl ?_
  have hg' := HG.out
  have kA : Btw w.heap.size (w.heap.size + 1) w4 (w4.setCell ⟨w.heap.size, 1, none⟩ (.slice (some ⟨gg, 0, none⟩) (m + 1) cap)) := (Btw.refl _ _ _).setCell (by show w.heap.size ≤ w.heap.size; omega) (by show w.heap.size < w.heap.size + 1; omega) _
  have es : (w4.setCell ⟨w.heap.size, 1, none⟩ (.slice (some ⟨gg, 0, none⟩) (m + 1) cap)).heap.size = w4.heap.size := by simp [World.setCell]
  have OW := HP4.out.btw kA (by omega)
  exact ⟨_, _, rfl, Lib.hid (ownW_stored3 (by omega) (by omega) (by rw [es]; exact hg'.2) OW), below_stored (HB6.out.setCell (by show w.heap.size ≤ w.heap.size; omega) _)⟩

theorem write_bound (ss : List ByteArray) (ws : List (Int × ByteArray)) (a : Int) (t : ByteArray) (h : ss.length ≤ 1048576) (g : ws.length ≤ 1048576) : (writeOf ss ws a t).1.length ≤ 1048577 ∧ (writeOf ss ws a t).2.1.length ≤ 1048577 := by
  unfold writeOf
  split
  · simp
  · split
    · split
      · split
        · simp; omega
        · split
          · simp; omega
          · simp; omega
      · simp
    · simp
end Go.Proofs.Ytoogaaoknpfkoaa
