/- The model's l05Own; BusGet and BusPut of the model. Written by gen_memown.py. -/
import Derived.Test.YtieljgoodmoacaaBusSpec
namespace Go.Proofs.Ytieljgoodmoacaa
open Go.RowKit

theorem wp_app_fresh {P : Program} {o : Oper} {a : Act} {w : World} {K : Act → World → Prop} {Q : Exit → Act → World → Prop}
    (s x : Operand) (t : TypeId) (hop : o.op = Op.call { callee := Callee.builtin Builtin.append, args := #[s, x], argTypes := #[t, t] })
    (e : TypeId) (z : Value) (size bytes : Nat) (ht : P.underlying t = some (.slice e)) (hi : ∃ i : TypeInfo, P.info? e = some i ∧ i.zero = some z ∧ i.size = size ∧ i.bytes = bytes) (hzs : z.cells.size = size) (hsz : 0 < size) (b : Addr) (hs : a.eval s = .slice (some b) 0 0)
    (A : Option Addr) (m c : Nat) (hm : 0 < m) (news : List Value) (hx : a.eval x = .slice A m c) (hl : news.length = m * size) (hsrc : ∃ ad, A = some ad ∧ ∀ j u, news[j]? = some u → w.cell? (ad.add j) = some u)
    (h63 : m ≤ maxLen) (hbytes : m * bytes ≤ 140737488355328)
    (h : ∀ A' cap w', Below w.heap.size w w' → Hid (w'.ownsRow w.heap.size e size (.slice A' m cap) m news) → K (a.put o.dst (.slice A' m cap)) w') : Oper.wp P o a w K Q := by
  obtain ⟨i, hi, hz, hsize, hby⟩ := hi
  obtain ⟨A', cap, w', hr, h2, h3⟩ := run_app_fresh (P := P) w t o.type e i z size bytes ht hi hz hsize hby hzs hsz b A m c hm news hl hsrc h63 hbytes
  unfold Oper.wp execOp
  simp only [hop, resolve, invoke, builtin, Sem.run_bind, Sem.run_pure, Result.andThen_ok, List.map_toArray, List.map_cons, List.map_nil, hs, hx, hr]
  exact h A' cap w' h2 (Lib.hid h3)

theorem arr15 (T : Array Value) (h : T.size = 15) : ∃ t0 t1 t2 t3 t4 t5 t6 t7 t8 t9 t10 t11 t12 t13 t14 : Value, T = #[t0, t1, t2, t3, t4, t5, t6, t7, t8, t9, t10, t11, t12, t13, t14] := by
  obtain ⟨l⟩ := T
  match l, h with
  | [t0, t1, t2, t3, t4, t5, t6, t7, t8, t9, t10, t11, t12, t13, t14], _ => exact ⟨t0, t1, t2, t3, t4, t5, t6, t7, t8, t9, t10, t11, t12, t13, t14, rfl⟩

def ownF (M : Nat) (s0 s1 fl : Value) (d0 d1 d2 : List Int) (d3 : List Bool) (st : Int) : Nat → (Nat → Value) → World → Prop
  | 0, t, _ => ∃ b, t 3 = .slice (some b) 0 0
  | 1, t, _ => t 4 = .pointer (some ⟨M, 0, none⟩)
  | 2, t, _ => t 5 = s0
  | 3, t, w => ∃ A c, t 6 = .slice A 256 c ∧ OwnI w M w.heap.size A d0
  | 4, t, _ => ∃ b, t 7 = .slice (some b) 0 0
  | 5, t, _ => t 8 = .pointer (some ⟨M, 1, none⟩)
  | 6, t, _ => t 9 = s1
  | 7, t, w => ∃ g A c A' c', t 6 = .slice A 256 c ∧ t 10 = .slice A' 32 c' ∧ OwnI w M g A d0 ∧ OwnI w g w.heap.size A' d1 ∧ M ≤ g ∧ g ≤ w.heap.size
  | 8, t, _ => t 11 = .pointer (some ⟨M, 2, none⟩)
  | 9, t, _ => t 12 = fl
  | 10, t, w => ∃ g h A c A' c' B e C f, t 6 = .slice A 256 c ∧ t 10 = .slice A' 32 c' ∧ t 13 = .agg #[.slice B 256 e, .slice C 16 f, .int .i64 st] ∧ OwnI w M g A d0 ∧ OwnI w g h A' d1 ∧ OwnI w h w.heap.size B d2 ∧ OwnB w h w.heap.size C d3 ∧ M ≤ g ∧ g ≤ h ∧ h ≤ w.heap.size
  | 11, t, _ => ∃ A c A' c' B e C f, t 6 = .slice A 256 c ∧ t 10 = .slice A' 32 c' ∧ t 13 = .agg #[.slice B 256 e, .slice C 16 f, .int .i64 st] ∧ t 14 = .agg #[.slice A 256 c, .slice A' 32 c', .slice B 256 e, .slice C 16 f, .int .i64 st]
  | 12, t, w => ∃ A c A' c' B e C f, t 6 = .slice A 256 c ∧ t 10 = .slice A' 32 c' ∧ t 13 = .agg #[.slice B 256 e, .slice C 16 f, .int .i64 st] ∧ Box w (M + 1) 45 #[.slice A 256 c, .slice A' 32 c', .slice B 256 e, .slice C 16 f, .int .i64 st]
  | _, _, _ => True
section
variable {M : Nat} {s0 s1 fl : Value} {d0 d1 d2 : List Int} {d3 : List Bool} {st : Int} {w w' : World}
theorem ownF_below (k : Below w.heap.size w w') : ∀ (j : Nat) (t : Nat → Value), ownF M s0 s1 fl d0 d1 d2 d3 st j t w → ownF M s0 s1 fl d0 d1 d2 d3 st j t w'
  | 0, _, h | 1, _, h | 2, _, h | 4, _, h | 5, _, h | 6, _, h | 8, _, h | 9, _, h | 11, _, h => h
  | 3, _, ⟨A, c, e, h⟩ => ⟨A, c, e, (h.below k).wideB (Nat.le_refl _) k.size⟩
  | 7, _, ⟨g, A, c, A', c', e, e2, h, h2, q, q2⟩ => ⟨g, A, c, A', c', e, e2, h.below k, (h2.below k).wideB (Nat.le_refl _) k.size, q, Nat.le_trans q2 k.size⟩
  | 10, _, ⟨g, h, A, c, A', c', B, e, C, f, e1, e2, e3, h1, h2, h3, h4, q, q2, q3⟩ => ⟨g, h, A, c, A', c', B, e, C, f, e1, e2, e3, h1.below k, h2.below k, (h3.below k).wideB (Nat.le_refl _) k.size, (h4.below k).wide (Nat.le_refl _) k.size, q, q2, Nat.le_trans q3 k.size⟩
  | 12, _, ⟨A, c, A', c', B, e, C, f, e1, e2, e3, h⟩ => ⟨A, c, A', c', B, e, C, f, e1, e2, e3, h.step k⟩
  | _ + 13, _, _ => trivial
theorem ownF_store {ys : Array Value} (Y : Box w (M + 1) 45 ys) (i : Nat) (u : Value) : ∀ (j : Nat) (t : Nat → Value), j ≠ 12 → ownF M s0 s1 fl d0 d1 d2 d3 st j t w → ownF M s0 s1 fl d0 d1 d2 d3 st j t (w.setCell ⟨M + 1, i, none⟩ u)
  | 0, _, _, h | 1, _, _, h | 2, _, _, h | 4, _, _, h | 5, _, _, h | 6, _, _, h | 8, _, _, h | 9, _, _, h | 11, _, _, h => h
  | 3, _, _, ⟨A, c, e, h⟩ => ⟨A, c, e, (h.farB Y (by decide) i u).wideB (Nat.le_refl _) (by simp [World.setCell])⟩
  | 7, _, _, ⟨g, A, c, A', c', e, e2, h, h2, q, q2⟩ => ⟨g, A, c, A', c', e, e2, h.farB Y (by decide) i u, (h2.farB Y (by decide) i u).wideB (Nat.le_refl _) (by simp [World.setCell]), q, by simpa [World.setCell] using q2⟩
  | 10, _, _, ⟨g, h, A, c, A', c', B, e, C, f, e1, e2, e3, h1, h2, h3, h4, q, q2, q3⟩ => ⟨g, h, A, c, A', c', B, e, C, f, e1, e2, e3, h1.farB Y (by decide) i u, h2.farB Y (by decide) i u, (h3.farB Y (by decide) i u).wideB (Nat.le_refl _) (by simp [World.setCell]), (h4.far Y (by decide) i u).wide (Nat.le_refl _) (by simp [World.setCell]), q, q2, by simpa [World.setCell] using q3⟩
  | 12, _, n, _ => (n rfl).elim
  | _ + 13, _, _, _ => trivial
end

section
variable (A0 A1 A2 A3 : Option Addr) (c0 c1 c2 c3 : Nat) (d0 d1 d2 : List Int) (d3 : List Bool) (d4 : Int) (w : World)
end

section
variable (A0 A1 A2 A3 : Option Addr) (n0 n1 n2 n3 c0 c1 c2 c3 : Nat) (d0 d1 d2 : List Int) (d3 : List Bool) (d4 : Int) (w : World)
theorem putF_bad (r i zs : List Int) (gs : List Bool) (st a v : Int) (h : okMem r i zs gs st = false) : putF r i zs gs st a v = ([], [], [], [], 0, 1) := by unfold putF codeIf; rw [h]; rfl
theorem putF_range (r i zs : List Int) (gs : List Bool) (st a v : Int) (h : okMem r i zs gs st = true) (h2 : (adB a && byB v) = false) : putF r i zs gs st a v = ([], [], [], [], 0, 4) := by unfold putF codeIf; rw [h, h2]; rfl
theorem putF_ok (r i zs : List Int) (gs : List Bool) (st a v : Int) (h : okMem r i zs gs st = true) (h2 : adB a = true) (h3 : byB v = true) : putF r i zs gs st a v = (putR r a v, putI i a v, putZ zs gs st a v, putG gs st a, putS st a v, 0) := by unfold putF codeIf; rw [h, h2, h3]; rfl
theorem OwnA.far5 {w : World} {lo hi : Nat} {B0 B1 B2 B3 : Option Addr} {m0 m1 m2 m3 e0 e1 e2 e3 : Nat} {r0 r1 r2 : List Int} {r3 : List Bool} (h : OwnA w lo hi [.slice B0 m0 e0, .slice B1 m1 e1, .slice B2 m2 e2, .slice B3 m3 e3] [.I r0, .I r1, .I r2, .B r3]) {b : Nat} {cs : Array Value} (X : Box w b 45 cs) (u0 u1 u2 u3 u4 : Value) : OwnA (((((w.setCell ⟨b, 0, none⟩ u0).setCell ⟨b, 1, none⟩ u1).setCell ⟨b, 2, none⟩ u2).setCell ⟨b, 3, none⟩ u3).setCell ⟨b, 4, none⟩ u4) lo hi [.slice B0 m0 e0, .slice B1 m1 e1, .slice B2 m2 e2, .slice B3 m3 e3] [.I r0, .I r1, .I r2, .B r3] := by
  obtain ⟨⟨⟨a0, b0, q0, o0⟩, ⟨a1, b1, q1, o1⟩, ⟨a2, b2, q2, o2⟩, ⟨a3, b3, q3, o3⟩, -⟩, hn⟩ := h
  exact ⟨⟨⟨a0, b0, q0, o0.far5 X _ _ _ _ _⟩, ⟨a1, b1, q1, o1.far5 X _ _ _ _ _⟩, ⟨a2, b2, q2, o2.far5 X _ _ _ _ _⟩, ⟨a3, b3, q3, o3.far5 X _ _ _ _ _⟩, trivial⟩, hn⟩

end
end Go.Proofs.Ytieljgoodmoacaa
