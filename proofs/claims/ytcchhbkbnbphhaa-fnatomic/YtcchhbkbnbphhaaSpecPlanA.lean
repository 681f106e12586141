/- For the model's l02Plan. Written by gen_specplan.py. -/
import Derived.Test.YtcchhbkbnbphhaaM8
import Derived.Test.YtcchhbkbnbphhaaM3
import Derived.Test.YtcchhbkbnbphhaaM7
import Derived.Test.YtcchhbkbnbphhaaM10
import Derived.BigQuiet
import Derived.IntWalk
import Derived.Deep.RegionHeld3
namespace Go.Proofs.Ytcchhbkbnbphhaa
open Go.RowKit

theorem wp_app_freshP {P : Program} {o : Oper} {a : Act} {w : World} {K : Act → World → Prop} {Q : Exit → Act → World → Prop}
    (s x : Operand) (t : TypeId) (hop : o.op = Op.call { callee := Callee.builtin Builtin.append, args := #[s, x], argTypes := #[t, t] })
    (e : TypeId) (z : Value) (size bytes : Nat) (ht : P.underlying t = some (.slice e)) (hi : ∃ i : TypeInfo, P.info? e = some i ∧ i.zero = some z ∧ i.size = size ∧ i.bytes = bytes) (hzs : z.cells.size = size) (hsz : 0 < size) (b : Addr) (hs : a.eval s = .slice (some b) 0 0)
    (A : Option Addr) (m c : Nat) (hm : 0 < m) (news : List Value) (hx : a.eval x = .slice A m c) (hl : news.length = m * size) (hsrc : ∃ ad, A = some ad ∧ ∀ j u, news[j]? = some u → w.cell? (ad.add j) = some u)
    (h63 : m ≤ maxLen) (hbytes : m * bytes ≤ 140737488355328)
    (h : ∀ A' cap w', Below w.heap.size w w' → Hid (w'.ownsRow w.heap.size e size (.slice A' m cap) m news) → K (a.put o.dst (.slice A' m cap)) w') : Oper.wp P o a w K Q := by
  obtain ⟨i, hi, hz, hsize, hby⟩ := hi
  obtain ⟨A', cap, w', hr, h2, h3⟩ := run_app_fresh (P := P) w t o.type e i z size bytes ht hi hz hsize hby hzs hsz b A m c hm news hl hsrc h63 hbytes
  unfold Oper.wp execOp
  simp only [hop, resolve, invoke, builtin, Sem.run_bind, Sem.run_pure, Result.andThen_ok, List.map_toArray, List.map_cons, List.map_nil, hs, hx, hr]
  exact h A' cap w' h2 (Lib.hid h3)
theorem setCell_selfP {w : World} {p : Addr} {u v : Value} (h : w.cell? p = some u) : ∃ x, (w.setCell p v).cell? p = some x := by
  exact ⟨_, World.cell?_setCell_same' w p v (by rw [h]; rfl)⟩
theorem frozen_setCellP (w : World) (p q : Addr) (v : Value) : (w.setCell p v).frozen? q = w.frozen? q := by simp
def YW2 (b : Nat) (W : World) (j : Nat) : Value := (W.cell? ⟨b, j, none⟩).getD undef
theorem YW2.of {b : Nat} {W : World} {t : TypeId} {cs : Array Value} (h : Box W b t cs) (hs : cs.size = 2) (j : Nat) (hj : j < 2) : W.cell? ⟨b, j, none⟩ = some (YW2 b W j) := by
  have := h.cell j (Array.getElem?_eq_getElem (by omega : j < cs.size))
  unfold YW2; rw [this]; rfl
theorem Box.allW2 {w : World} {b : Nat} {t : TypeId} {cs : Array Value} (X : Box w b t cs) (hs : cs.size = 2) (u0 u1 : Value) :
    Box ((w.setCell ⟨b, 0, none⟩ u0).setCell ⟨b, 1, none⟩ u1) b t #[u0, u1] := by
  have := (X.set 0 u0).set 1 u1
  rw [show (cs.setIfInBounds 0 u0).setIfInBounds 1 u1 = #[u0, u1] from by
    match cs, hs with
    | ⟨[a, b]⟩, _ => rfl] at this
  exact this
theorem Box.setAny {w : World} {b b' : Nat} {t : TypeId} {cs : Array Value} (X : Box w b t cs) (i : Nat) (u : Value) : ∃ cs' : Array Value, cs'.size = cs.size ∧ Box (w.setCell ⟨b', i, none⟩ u) b t cs' := by
  by_cases h : b = b'
  · subst h
    exact ⟨_, by simp, X.set i u⟩
  · exact ⟨cs, rfl, X.far (p := ⟨b', i, none⟩) h u⟩
theorem rowv_setRow {w : World} {base n b m : Nat} {t e : TypeId} {f : Nat → Value} {size : Nat} {v : Value} {xs : List Value} (h : w.ownsRow base e size v n xs) (hr : w.rowIs b t m f) (ht : t ≠ e) (i : Nat) (u : Value) : (w.setCell ⟨b, i, none⟩ u).ownsRow base e size v n xs := by
  obtain ⟨cs, hc, _, _⟩ := hr
  exact rowv_setBox h (show Box w b t cs from hc) ht i u
theorem OwnI.grown {w w' : World} {lo hi base n : Nat} {A : Option Addr} {zs : List Int} {e : TypeId} {size : Nat} {v : Value} {xs : List Value} (h : OwnI w lo hi A zs) (hr : w.ownsRow base e size v n xs) (ht : 3 ≠ e) (hg : w.grownBy w' v.ownBlock) : OwnI w' lo hi A zs := by
  rcases h with q | ⟨b, m, f, q, h1, h2, hm, ⟨cs, hc, hs, hi'⟩, hf⟩
  · exact .inl q
  · exact .inr ⟨b, m, f, q, h1, h2, hm, ⟨cs, Box.grown (cs := cs) hc hr ht hg, hs, hi'⟩, hf⟩
structure PSt (w : World) (A C T : Option Addr) (n c d tc : Nat) (g : Int) (D : Nat) (G : Option Addr) (gc Wh : Nat) (tb : List Int) (W : World) : Prop where
  bel : Below w.heap.size w W
  x : Box W w.heap.size 26 #[.slice A n c, .slice C 0 d]
  r : Box W (w.heap.size + 1) 31 #[.int .i64 g, .slice T 17 tc]
  y : Box W (w.heap.size + 1 + 1) 31 #[.int .i64 0, .slice none 0 0]
  z : Box W D 31 #[.int .i64 (g + 1), .slice G 17 gc]
  tab : OwnI W w.heap.size Wh G tb
  hd : w.heap.size + 3 ≤ D
  hw : Wh ≤ W.heap.size
  tl : tb.length = 17
section
variable {w : World} {A C T : Option Addr} {n c d tc : Nat} {g : Int} {D : Nat} {G : Option Addr} {gc Wh : Nat} {tb : List Int} {W W' : World}
theorem PSt.step (h : PSt w A C T n c d tc g D G gc Wh tb W) (k : Below W.heap.size W W') : PSt w A C T n c d tc g D G gc Wh tb W' :=
  ⟨bt h.bel k, h.x.step k, h.r.step k, h.y.step k, h.z.step k, h.tab.below k, h.hd, Nat.le_trans h.hw k.size, h.tl⟩
theorem PSt.set {gb m j : Nat} {f : Nat → Value} (h : PSt w A C T n c d tc g D (some ⟨gb, 0, none⟩) gc Wh tb W) (hr : W.rowIs gb 3 m f) (hput : ∀ x, OwnI (W.setCell ⟨gb, j, none⟩ (.int .i64 x)) w.heap.size Wh (some ⟨gb, 0, none⟩) (tb.set j x)) (hg : w.heap.size ≤ gb) (v : Int) : PSt w A C T n c d tc g D (some ⟨gb, 0, none⟩) gc Wh (tb.set j v) (W.setCell ⟨gb, j, none⟩ (.int .i64 v)) :=
  ⟨h.bel.setCell (p := ⟨gb, j, none⟩) hg _, h.x.far (p := ⟨gb, j, none⟩) (by exact h.x.ne hr (by decide)) _, h.r.far (p := ⟨gb, j, none⟩) (by exact h.r.ne hr (by decide)) _, h.y.far (p := ⟨gb, j, none⟩) (by exact h.y.ne hr (by decide)) _, h.z.far (p := ⟨gb, j, none⟩) (by exact h.z.ne hr (by decide)) _, hput v, h.hd, by simpa [World.setCell] using h.hw, by rw [List.length_set]; exact h.tl⟩
theorem PSt.grown {base k : Nat} {v : Value} {xs : List Value} (h : PSt w A C T n c d tc g D G gc Wh tb W) (hr : W.ownsRow base 67 2 v k xs) (hg : W.grownBy W' v.ownBlock) (hb : Below w.heap.size W W') : PSt w A C T n c d tc g D G gc Wh tb W' :=
  ⟨h.bel.trans hb, h.x.grown hr (by decide) hg, h.r.grown hr (by decide) hg, h.y.grown hr (by decide) hg, h.z.grown hr (by decide) hg, h.tab.grown hr (by decide) hg, h.hd, Nat.le_trans h.hw hb.size, h.tl⟩
end
def plnF (M N : Nat) (g : Int) (T : Value) (zs : List Int) : Nat → (Nat → Value) → World → Prop
  | 0, t, _ => t 12 = .pointer (some ⟨M + 1, 0, none⟩)
  | 1, t, _ => t 13 = .int .i64 g
  | 2, t, _ => t 14 = .int .i64 (g + 1)
  | 3, t, _ => ∃ b, t 15 = .slice (some b) 0 0
  | 4, t, _ => t 16 = .pointer (some ⟨M + 1, 1, none⟩)
  | 5, t, _ => t 17 = T
  | 6, t, w => ∃ A c, t 18 = .slice A 17 c ∧ OwnI w M w.heap.size A zs
  | 7, t, _ => ∃ A c, t 18 = .slice A 17 c ∧ t 19 = .agg #[.int .i64 (g + 1), .slice A 17 c]
  | 8, t, w => ∃ D ys, t 8 = .pointer (some ⟨D, 0, none⟩) ∧ Box w D 31 ys ∧ ys.size = 2 ∧ N ≤ D
  | 9, t, w => ∃ A c D, t 18 = .slice A 17 c ∧ t 8 = .pointer (some ⟨D, 0, none⟩) ∧ Box w D 31 #[.int .i64 (g + 1), .slice A 17 c] ∧ N ≤ D
  | _, _, _ => True
section
variable {M N : Nat} {g : Int} {T : Value} {zs : List Int} {w w' : World}
theorem plnF_below (k : Below w.heap.size w w') : ∀ (j : Nat) (t : Nat → Value), plnF M N g T zs j t w → plnF M N g T zs j t w'
  | 0, _, h | 1, _, h | 2, _, h | 3, _, h | 4, _, h | 5, _, h | 7, _, h => h
  | 6, _, ⟨A, c, e, h⟩ => ⟨A, c, e, (h.below k).wide (Nat.le_refl _) k.size⟩
  | 8, _, ⟨D, ys, e, h, q, q2⟩ => ⟨D, ys, e, h.step k, q, q2⟩
  | 9, _, ⟨A, c, D, e, e2, h, q⟩ => ⟨A, c, D, e, e2, h.step k, q⟩
  | _ + 10, _, _ => trivial
theorem plnF_store {D : Nat} {ys : Array Value} (Y : Box w D 31 ys) (i : Nat) (u : Value) : ∀ (j : Nat) (t : Nat → Value), j ≠ 9 → plnF M N g T zs j t w → plnF M N g T zs j t (w.setCell ⟨D, i, none⟩ u)
  | 0, _, _, h | 1, _, _, h | 2, _, _, h | 3, _, _, h | 4, _, _, h | 5, _, _, h | 7, _, _, h => h
  | 6, _, _, ⟨A, c, e, h⟩ => ⟨A, c, e, (h.far Y (by decide) i u).wide (Nat.le_refl _) (by simp [World.setCell])⟩
  | 8, _, _, ⟨D', ys', e, h, q, q2⟩ => by
    obtain ⟨cs, hs, hb⟩ := h.setAny (b' := D) i u
    exact ⟨D', cs, e, hb, hs.trans q, q2⟩
  | 9, _, n, _ => (n rfl).elim
  | _ + 10, _, _, _ => trivial
end
theorem arr63 (T : Array Value) (h : T.size = 63) : ∃ t0 t1 t2 t3 t4 t5 t6 t7 t8 t9 t10 t11 t12 t13 t14 t15 t16 t17 t18 t19 t20 t21 t22 t23 t24 t25 t26 t27 t28 t29 t30 t31 t32 t33 t34 t35 t36 t37 t38 t39 t40 t41 t42 t43 t44 t45 t46 t47 t48 t49 t50 t51 t52 t53 t54 t55 t56 t57 t58 t59 t60 t61 t62 : Value, T = #[t0, t1, t2, t3, t4, t5, t6, t7, t8, t9, t10, t11, t12, t13, t14, t15, t16, t17, t18, t19, t20, t21, t22, t23, t24, t25, t26, t27, t28, t29, t30, t31, t32, t33, t34, t35, t36, t37, t38, t39, t40, t41, t42, t43, t44, t45, t46, t47, t48, t49, t50, t51, t52, t53, t54, t55, t56, t57, t58, t59, t60, t61, t62] := by
  obtain ⟨l⟩ := T
  match l, h with
  | t0 :: t1 :: t2 :: t3 :: t4 :: t5 :: t6 :: t7 :: t8 :: t9 :: t10 :: t11 :: t12 :: t13 :: t14 :: t15 :: t16 :: t17 :: t18 :: t19 :: t20 :: t21 :: t22 :: t23 :: t24 :: t25 :: t26 :: t27 :: t28 :: t29 :: t30 :: t31 :: t32 :: t33 :: t34 :: t35 :: t36 :: t37 :: t38 :: t39 :: t40 :: t41 :: t42 :: t43 :: t44 :: t45 :: t46 :: t47 :: t48 :: t49 :: t50 :: t51 :: t52 :: t53 :: t54 :: t55 :: t56 :: t57 :: t58 :: t59 :: t60 :: t61 :: t62 :: [], _ => exact ⟨t0, t1, t2, t3, t4, t5, t6, t7, t8, t9, t10, t11, t12, t13, t14, t15, t16, t17, t18, t19, t20, t21, t22, t23, t24, t25, t26, t27, t28, t29, t30, t31, t32, t33, t34, t35, t36, t37, t38, t39, t40, t41, t42, t43, t44, t45, t46, t47, t48, t49, t50, t51, t52, t53, t54, t55, t56, t57, t58, t59, t60, t61, t62, rfl⟩

theorem own_at {w : World} {lo hi fb k : Nat} {fr : List Int} (h : OwnI w lo hi (some ⟨fb, 0, none⟩) fr) (hk : k < fr.length) : w.cell? ⟨fb, k, none⟩ = some (.int .i64 (fr.getD k 0)) := by
  obtain ⟨b, m, f, e, hc, _⟩ := h.put k hk
  injection e with e
  injection e with e
  subst e
  exact hc
theorem plan_held {w w5 w6 : World} {B : Option Addr} {k f fb pb po mid hi : Nat} {fr : List Int} {v : Int} {t : ByteArray} {xs : List Value} (k6 : Below w5.heap.size w5 w6) (O7 : OwnI w6 mid hi (some ⟨fb, 0, none⟩) fr) (HOw : w6.ownsRow w.heap.size 67 2 (.slice B k f) k xs) (hk : k < fr.length) (hv : fr.getD k 0 = v) (hpl : pb < w.heap.size)
    (hfc : w5.cell? ⟨fb, k, none⟩ = some (.int .i64 v)) (hpc : w5.cell? ⟨pb, po, none⟩ = some (.string t)) :
    ∀ W', (W' = w5.drew ∨ W' = w6 ∨ (w6.grownBy W' (Value.slice B k f).ownBlock ∧ Below w.heap.size w6 W')) → W'.cell? ⟨fb, k, none⟩ = some (.int .i64 v) ∧ W'.cell? ⟨pb, po, none⟩ = some (.string t) := by
  intro W' h
  rcases h with h | h | ⟨q1, q2⟩
  · rw [h]; exact ⟨hfc, hpc⟩
  · rw [h]; exact ⟨(k6.cell (p := ⟨fb, k, none⟩) (cell_lt hfc)).trans hfc, (k6.cell (p := ⟨pb, po, none⟩) (cell_lt hpc)).trans hpc⟩
  · refine ⟨?_, (q2.cell (p := ⟨pb, po, none⟩) hpl).trans ((k6.cell (p := ⟨pb, po, none⟩) (cell_lt hpc)).trans hpc)⟩
    rw [← hv]
    exact own_at (O7.grown HOw (by decide) q1) hk
def GivesNext (g : Int) (tb : List Int) (wl : List (Int × ByteArray)) (w : World) (e : Ending) (w' : World) : Prop :=
  ∃ G gc B k f, e = .returned (.tuple #[.agg #[.int .i64 (g + 1), .slice G 17 gc], .slice B k f]) ∧ Hid (wl.length = k) ∧ Hid (k ≤ f) ∧ Hid (k = 0 ∨ ∃ b, B = some ⟨b, 0, none⟩) ∧ Hid (IntL w' G tb) ∧ Hid (WrL w' B wl) ∧ Below w.heap.size w w'

end Go.Proofs.Ytcchhbkbnbphhaa
