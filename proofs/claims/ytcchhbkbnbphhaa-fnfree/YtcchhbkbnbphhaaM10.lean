/- Texts of this claim, one behind the other: DrawForm2. -/
import Derived.Test.YtcchhbkbnbphhaaDrawForm
import Derived.Test.YtcchhbkbnbphhaaM9
/- spec.FormattedDisk, spec.PagesDrawn; laws.sameTexts, told exactly; what Newest, LoadPages and FreeSectors answer of a disk that holds a root. -/
namespace Go.Proofs.Ytcchhbkbnbphhaa
open Go.RowKit

def GivesFormD (w : World) (e : Ending) (w' : World) : Prop :=
  ∃ ss A n c C d g z sl, e = .returned (.agg #[.slice A n c, .slice C 0 d]) ∧ Hid (ss.length = n) ∧ Hid (StrL w' A ss) ∧ Hid (FD ss g z sl ∧ g ≤ 4) ∧ Below w.heap.size w w'
set_option maxRecDepth 100000 in
set_option maxHeartbeats 4000000 in
theorem formDrawn (A : Option Addr) (n c : Nat) (zs : List Nat) (w : World) (hn : n ≤ maxLen) (hl : zs.length = n) (h : ByB w w.heap.size A zs) :
    Calls Try.prog 7 #[.slice A n c] w (GivesFormD w) := by
  obtain ⟨W0, hW0⟩ : ∃ W0, W0 = w.alloc (.cells #[.slice none 0 0, .slice none 0 0] 26) := ⟨_, rfl⟩
  have hb0 : Below w.heap.size w W0 := by rw [hW0]; exact alloc_below _ _
  have HY0 : Hid (Box W0 w.heap.size 26 #[.slice none 0 0, .slice none 0 0]) := Lib.hid (by rw [hW0]; exact Box.new _ _ _)
  have HC := Lib.hid (srcNew A n c zs W0 hn hl (h.step hb0))
  have HW0 := Lib.hid hW0
  have HNn := Lib.hid hn
  clear hn hl h hW0
  go_enter Try.func7, Try.ntmps7
  go_wp2_with fail
  rw [← HW0.out]
  refine HC.out.mono ?_
  rintro e w1 ⟨rfl, S1, hb1⟩
  have HY1 := Lib.hid (HY0.out.step hb1)
  have hsz : w.heap.size + 1 ≤ W0.heap.size := HY0.out.lt
  go_wp2_with fail
  refine (srcForm W0.heap.size A n c zs 0 w1 HNn.out (by omega) S1.out).mono ?_
  rintro e w2 ⟨ss, A2, n2, c2, C2, d2, g, z, sl, rfl, L2, S2, HF, B2⟩
  have Y2 := Lib.hid (HY1.out.btw B2 (.inl (by omega)))
  have HB2 := Lib.hid ((hb0.trans (hb1.mono (by omega))).trans ((B2.below (hb1.size)).mono (by omega)))
  have g0 := Y2.out.cell 0 rfl
  have g1 := Y2.out.cell 1 rfl
  have g2 := Y2.out.frozen 0
  have g3 := Y2.out.frozen 1
  clear HC HY0 HY1 S1 B2
  go_wp2
  refine bodyPost_ret (v := .agg #[.slice A2 n2 c2, .slice C2 0 d2]) (by simp [results, Try.results7, go_sem, g0, g1]) rfl ?_
  have q1 : Below w.heap.size w2 ((w2.setCell ⟨w.heap.size, 0, none⟩ (.slice A2 n2 c2)).setCell ⟨w.heap.size, 1, none⟩ (.slice C2 0 d2)) := ((Below.refl _ _).setCell (p := ⟨w.heap.size, 0, none⟩) (Nat.le_refl _) _).setCell (p := ⟨w.heap.size, 1, none⟩) (Nat.le_refl _) _
  have Y3 := Y2.out.set 0 (.slice A2 n2 c2)
  exact ⟨ss, A2, n2, c2, C2, d2, g, z, sl, rfl, L2, Lib.hid (((S2.out.far Y2.out 0 _).far Y3 1 _).reads), HF, HB2.out.trans q1⟩
def pagesX (zs : List Nat) (n : Nat) : List ByteArray := (pagesN zs 0 (n % 1000) 17).1
theorem pagesX_len (zs : List Nat) (n : Nat) : (pagesX zs n).length = 17 := pagesN_len _ _ _ _
theorem pagesX_size (zs : List Nat) (n : Nat) : ∀ s ∈ pagesX zs n, s.size ≤ 100 := pagesN_size _ _ _ _
def GivesPagesD (ps : List ByteArray) (w : World) (e : Ending) (w' : World) : Prop :=
  ∃ P cp, e = .returned (.slice P 17 cp) ∧ Hid (StrL w' P ps) ∧ Below w.heap.size w w'
set_option maxRecDepth 100000 in
set_option maxHeartbeats 4000000 in
theorem pagesDrawn (A : Option Addr) (n c : Nat) (zs : List Nat) (w : World) (hn : n ≤ maxLen) (hl : zs.length = n) (h : ByB w w.heap.size A zs) :
    Calls Try.prog 8 #[.slice A n c] w (GivesPagesD (pagesX zs n) w) := by
  have HC := Lib.hid (srcNewX A n c zs w hn hl h)
  clear hn hl h
  go_enter Try.func8, Try.ntmps8
  go_wp2_with fail
  refine HC.out.mono ?_
  rintro e w1 ⟨rfl, S1, hb1⟩
  go_wp2_with fail
  refine (srcPages w.heap.size A n c zs 0 (n % 1000) w1 (by omega) S1.out).mono ?_
  rintro e w2 ⟨P, cp, rfl, O2, S2, B2⟩
  go_wp2
  refine bodyPost_ret (v := .slice P 17 cp) (by simp [results, Try.results8, go_sem]) rfl ?_
  exact ⟨P, cp, rfl, Lib.hid O2.out.reads, hb1.trans (B2.below hb1.size)⟩
theorem FD.new {ss : List ByteArray} {g : Int} {z : List Int} {sl : Int} (h : FD ss g z sl) : newOf ss [] = ⟨g, z, sl, 0⟩ := by unfold newOf; rw [if_pos h.ok, h.newest]
theorem FD.load {ss : List ByteArray} {g : Int} {z : List Int} {sl : Int} (h : FD ss g z sl) : loadOf ss [] = (loadL ss [] z, 0) := by unfold loadOf; rw [h.new]; rfl
theorem FD.free {ss : List ByteArray} {g : Int} {z : List Int} {sl : Int} (h : FD ss g z sl) : freeOf ss [] = (freeL z, 0) := by unfold freeOf; rw [h.new]; rfl
theorem FD.fit {ss : List ByteArray} {g : Int} {z : List Int} {sl : Int} (h : FD ss g z sl) : FitS ss := fun s hs => Nat.le_trans (h.small.2 s hs) (by unfold maxLen; omega)
theorem fitW_nil : FitW [] := fun x hx => by cases hx
theorem wrl_nil (w : World) (C : Option Addr) : WrL w C [] := fun i hi => by simp at hi
theorem fit_of {ps : List ByteArray} (h : ∀ s ∈ ps, s.size ≤ 100) : FitS ps := fun s hs => Nat.le_trans (h s hs) (by unfold maxLen; omega)
theorem filter_two {p q : Nat → Bool} : ∀ l : List Nat, (∀ i ∈ l, ¬ (p i = true ∧ q i = true)) → (l.filter fun i => p i || q i).length = (l.filter p).length + (l.filter q).length
  | [], _ => rfl
  | a :: l, h => by
    have ih := filter_two (p := p) (q := q) l (fun i hi => h i (List.mem_cons_of_mem _ hi))
    have ha := h a List.mem_cons_self
    simp only [List.filter_cons]
    cases hp : p a <;> cases hq : q a <;> simp_all <;> omega
theorem one_of : ∀ k : Fin 46, ((List.range 46).filter fun i => decide (i = k.val)).length = 1 := by decide +kernel
theorem held_nodup : ∀ z : List Int, z.Nodup → (∀ x ∈ z, 2 ≤ x ∧ x ≤ 47) → ((List.range 46).filter fun i => decide (((i + 2 : Nat) : Int) ∈ z)).length = z.length
  | [], _, _ => by simp
  | x :: z, hn, hx => by
    have ih := held_nodup z (List.nodup_cons.1 hn).2 (fun y hy => hx y (List.mem_cons_of_mem _ hy))
    have h0 := hx x List.mem_cons_self
    have hnx := (List.nodup_cons.1 hn).1
    obtain ⟨k, hk⟩ : ∃ k : Nat, x = ((k + 2 : Nat) : Int) := ⟨(x - 2).toNat, by omega⟩
    have hk46 : k < 46 := by omega
    have e : (fun i : Nat => decide (((i + 2 : Nat) : Int) ∈ x :: z)) = fun i => decide (((i + 2 : Nat) : Int) ∈ z) || decide (i = k) := by
      funext i
      rw [Bool.eq_iff_iff]
      simp only [Bool.or_eq_true, decide_eq_true_eq, List.mem_cons]
      rw [hk]
      constructor
      · rintro (h | h)
        · exact .inr (by omega)
        · exact .inl h
      · rintro (h | h)
        · exact .inr h
        · exact .inl (by rw [h])
    rw [e, filter_two _ (fun i _ h => by
      simp only [decide_eq_true_eq] at h
      exact hnx (by rw [hk, ← h.2]; exact h.1)), ih, one_of ⟨k, hk46⟩, List.length_cons]
theorem FD.free29 {ss : List ByteArray} {g : Int} {z : List Int} {sl : Int} (h : FD ss g z sl) : (freeL z).length = 29 := by
  obtain ⟨-, h2, h3, h4⟩ := rootB_all h.root
  have a := frN_held z 46
  have b := held_nodup z h4 h3
  unfold freeL
  omega
theorem free_apart (z : List Int) (i k : Nat) (hi : i < (freeL z).length) (hk : k < z.length) : ((freeL z).getD i 0 == z.getD k 0) = false := by
  rw [beq_eq_false_iff_ne]
  intro e
  exact frN_not z 46 _ (getD_mem i hi) (by rw [show (frN z 46).getD i 0 = (freeL z).getD i 0 from rfl, e]; exact getD_mem k hk)
end Go.Proofs.Ytcchhbkbnbphhaa
