/- The source's formatted disk: a root and its pages, of a generation of at most four. Written by gen_drawform.py. -/
import Derived.Test.YtcchhbkbnbphhaaM5
import Derived.Test.YtcchhbkbnbphhaaM6
import Derived.Test.YtcchhbkbnbphhaaM9
import Derived.Test.YtcchhbkbnbphhaaSpecTorn
import Derived.Test.YtcchhbkbnbphhaaM7
import Derived.Test.YtcchhbkbnbphhaaM3
import Derived.Laws.Tables
namespace Go.Proofs.Ytcchhbkbnbphhaa
open Go.RowKit
theorem arr30f (T : Array Value) (h : T.size = 30) : ∃ t0 t1 t2 t3 t4 t5 t6 t7 t8 t9 t10 t11 t12 t13 t14 t15 t16 t17 t18 t19 t20 t21 t22 t23 t24 t25 t26 t27 t28 t29 : Value, T = #[t0, t1, t2, t3, t4, t5, t6, t7, t8, t9, t10, t11, t12, t13, t14, t15, t16, t17, t18, t19, t20, t21, t22, t23, t24, t25, t26, t27, t28, t29] := by
  obtain ⟨l⟩ := T
  match l, h with
  | [t0, t1, t2, t3, t4, t5, t6, t7, t8, t9, t10, t11, t12, t13, t14, t15, t16, t17, t18, t19, t20, t21, t22, t23, t24, t25, t26, t27, t28, t29], _ => exact ⟨t0, t1, t2, t3, t4, t5, t6, t7, t8, t9, t10, t11, t12, t13, t14, t15, t16, t17, t18, t19, t20, t21, t22, t23, t24, t25, t26, t27, t28, t29, rfl⟩

def GoodD (W : World) (A : Option Addr) (n : Nat) (G : Int) : Prop := ∃ ss g z sl, ss.length = n ∧ StrL W A ss ∧ FD ss g z sl ∧ g ≤ G
theorem GoodD.below {W W' : World} {A : Option Addr} {n : Nat} {G : Int} (h : GoodD W A n G) (k : Below W.heap.size W W') : GoodD W' A n G := by
  obtain ⟨ss, g, z, sl, q1, q2, q3⟩ := h
  exact ⟨ss, g, z, sl, q1, q2.below k, q3⟩
theorem GoodD.mono {W : World} {A : Option Addr} {n : Nat} {G G' : Int} (h : GoodD W A n G) (k : G ≤ G') : GoodD W A n G' := by
  obtain ⟨ss, g, z, sl, q1, q2, q3, q4⟩ := h
  exact ⟨ss, g, z, sl, q1, q2, q3, by omega⟩
theorem btw_setRow' {lo hi : Nat} {a w : World} (h : Btw lo hi a w) {b : Nat} (h1 : lo ≤ b) (h2 : b < hi) (cs : Array Value) : Btw lo hi a (w.setRow b cs) :=
  h.trans ⟨rfl, rfl, rfl, by simp [World.setRow], fun k _ ho => setRow_other w b k cs (by omega)⟩
theorem Box.setRow' {w : World} {b : Nat} {t : TypeId} {cs : Array Value} (X : Box w b t cs) (cs' : Array Value) : Box (w.setRow b cs') b t cs' := by
  unfold Box at X ⊢
  simp [World.setRow, Array.getElem?_modify, X]
theorem Box.farRow' {w : World} {b b' : Nat} {t : TypeId} {cs : Array Value} (X : Box w b t cs) (hb : b ≠ b') (cs' : Array Value) : Box (w.setRow b' cs') b t cs := (setRow_other w b' b cs' hb).trans X
theorem strL_box {W W' : World} {A : Option Addr} {ss : List ByteArray} {b : Nat} {t : TypeId} {cs : Array Value} (h : StrL W A ss) (X : Box W b t cs) (hcs : ∀ (k : Nat) (s : ByteArray), cs[k]? ≠ some (.string s)) (hk : ∀ g, g ≠ b → g < W.heap.size → W'.heap[g]? = W.heap[g]?) : StrL W' A ss := fun j hj => by
  obtain ⟨b', off, e, hq⟩ := h j hj
  refine ⟨b', off, e, ?_⟩
  have hne : b' ≠ b := by
    rintro rfl
    rw [cell_of_row W b' (off + j) cs t (0, 0) X] at hq
    exact hcs _ _ hq
  exact (World.cell?_of_block (hk b' hne (cell_lt hq))).trans hq
theorem src_nostr (v0 : Option Addr) (n c : Nat) (k sd : Int) : ∀ (j : Nat) (s : ByteArray), (#[.slice v0 n c, .int .i64 k, .int .i64 sd] : Array Value)[j]? ≠ some (.string s)
  | 0, _, h => by simp at h
  | 1, _, h => by simp at h
  | 2, _, h => by simp at h
  | _ + 3, _, h => by simp at h
theorem disk_nostr (v0 v1 : Option Addr) (n c m d : Nat) : ∀ (j : Nat) (s : ByteArray), (#[.slice v0 n c, .slice v1 m d] : Array Value)[j]? ≠ some (.string s)
  | 0, _, h => by simp at h
  | 1, _, h => by simp at h
  | _ + 2, _, h => by simp at h
theorem GoodD.btw {W W' : World} {A A0 : Option Addr} {n n0 c0 : Nat} {zs : List Nat} {K b : Nat} {G : Int} (h : GoodD W A n G) (hS : Src W b A0 n0 c0 zs K) (k : Btw b (b + 1) W W') : GoodD W' A n G := by
  obtain ⟨ss, g, z, sl, q1, q2, q3⟩ := h
  obtain ⟨kk, sd, X, -⟩ := hS
  exact ⟨ss, g, z, sl, q1, strL_box q2 X (src_nostr _ _ _ _ _) (fun g hg hl => k.block g hl (by omega)), q3⟩
theorem GoodD.row {W : World} {A A0 C0 : Option Addr} {n n0 c0 m0 d0 h : Nat} {G : Int} (q : GoodD W A n G) (X : Box W h 26 #[.slice A0 n0 c0, .slice C0 m0 d0]) (cs : Array Value) : GoodD (W.setRow h cs) A n G := by
  obtain ⟨ss, g, z, sl, q1, q2, q3⟩ := q
  exact ⟨ss, g, z, sl, q1, strL_box q2 X (disk_nostr _ _ _ _ _ _) (fun g hg _ => setRow_other W h g cs hg), q3⟩
theorem GoodD.off {W W' : World} {A A0 C0 : Option Addr} {n n0 c0 m0 d0 h : Nat} {G : Int} (q : GoodD W A n G) (X : Box W h 26 #[.slice A0 n0 c0, .slice C0 m0 d0]) (k : Btw h (h + 1) W W') : GoodD W' A n G := by
  obtain ⟨ss, g, z, sl, q1, q2, q3⟩ := q
  exact ⟨ss, g, z, sl, q1, strL_box q2 X (disk_nostr _ _ _ _ _ _) (fun g hg hl => k.block g hl (by omega)), q3⟩
theorem ownS_setRow {w : World} {lo hi D : Nat} {A : Option Addr} {ss : List ByteArray} {cs : Array Value} (h : OwnS w lo hi A ss) (X : Box w D 26 cs) (cs' : Array Value) : OwnS (w.setRow D cs') lo hi A ss := by
  rcases h with e | ⟨b, m, f, e, q1, q2, q3, q4, q5⟩
  · exact .inl e
  · have hne := X.ne q4 (by decide)
    have sm : OwnS w b (b + 1) A ss := .inr ⟨b, m, f, e, Nat.le_refl _, Nat.lt_succ_self _, q3, q4, q5⟩
    have k : Btw D (D + 1) w (w.setRow D cs') := btw_setRow' (Btw.refl _ _ _) (Nat.le_refl _) (Nat.lt_succ_self _) _
    exact (sm.btw k (by omega)).wide q1 q2
theorem ownI_setRow {w : World} {lo hi D : Nat} {A : Option Addr} {ss : List Int} {cs : Array Value} (h : OwnI w lo hi A ss) (X : Box w D 26 cs) (cs' : Array Value) : OwnI (w.setRow D cs') lo hi A ss := by
  rcases h with e | ⟨b, m, f, e, q1, q2, q3, q4, q5⟩
  · exact .inl e
  · have hne := X.ne q4 (by decide)
    have sm : OwnI w b (b + 1) A ss := .inr ⟨b, m, f, e, Nat.le_refl _, Nat.lt_succ_self _, q3, q4, q5⟩
    have k : Btw D (D + 1) w (w.setRow D cs') := btw_setRow' (Btw.refl _ _ _) (Nat.le_refl _) (Nat.lt_succ_self _) _
    exact (sm.btw k (by omega)).wide q1 q2
theorem size_setRow (w : World) (b : Nat) (cs : Array Value) : (w.setRow b cs).heap.size = w.heap.size := by simp [World.setRow]
def fmF (b lo : Nat) (dv : Value) (G : Int) : Nat → (Nat → Value) → World → Prop
  | 0, t, _ => t 17 = dv
  | 1, t, _ => t 18 = .pointer (some ⟨b, 0, none⟩)
  | 2, t, W => ∃ P cp ps, t 19 = .slice P 17 cp ∧ ps.length = 17 ∧ (∀ s ∈ ps, s.size ≤ 100) ∧ OwnS W lo W.heap.size P ps
  | 3, t, _ => t 20 = .pointer (some ⟨b, 0, none⟩)
  | 4, t, _ => ∃ v : Nat, t 21 = .int .i64 v ∧ v ≤ 2
  | 5, t, _ => t 22 = .pointer (some ⟨b, 0, none⟩)
  | 6, t, W => ∃ F nf cf xs, t 23 = .slice F nf cf ∧ xs.length = nf ∧ nf ≤ 3 ∧ okF xs = true ∧ OwnI W lo W.heap.size F xs
  | 7, t, W => ∃ A n c C d, t 24 = .tuple #[.agg #[.slice A n c, .slice C 0 d], .int .i64 0] ∧ GoodD W A n (G + 1)
  | 8, t, W => ∃ A n c C d, t 16 = .tuple #[.agg #[.slice A n c, .slice C 0 d], .int .i64 0] ∧ GoodD W A n (G + 1)
  | 9, t, W => ∃ A n c C d, t 25 = .agg #[.slice A n c, .slice C 0 d] ∧ GoodD W A n (G + 1)
  | 10, t, _ => t 26 = .int .i64 0
  | 11, t, W => ∃ h A n c C m d, t 5 = .pointer (some ⟨h, 0, none⟩) ∧ lo ≤ h ∧ Box W h 26 #[.slice A n c, .slice C m d]
  | 12, t, W => ∃ h A n c C d, t 5 = .pointer (some ⟨h, 0, none⟩) ∧ lo ≤ h ∧ Box W h 26 #[.slice A n c, .slice C 0 d] ∧ GoodD W A n (G + 1)
  | 13, t, _ => t 6 = .int .i64 0
  | _, _, _ => True
theorem fmF_btw {b lo : Nat} {dv : Value} {G : Int} {W W' : World} {A0 : Option Addr} {n0 c0 : Nat} {zs : List Nat} {K : Nat} (hS : Src W b A0 n0 c0 zs K) (k : Btw b (b + 1) W W') (hb : b < lo) : ∀ (j : Nat) (t : Nat → Value), fmF b lo dv G j t W → fmF b lo dv G j t W'
  | 0, _, e | 1, _, e | 3, _, e | 4, _, e | 5, _, e | 10, _, e | 13, _, e => e
  | 2, _, ⟨P, cp, ps, e, q1, q2, q3⟩ => ⟨P, cp, ps, e, q1, q2, (q3.btw k (.inr (by omega))).wide (Nat.le_refl _) k.size⟩
  | 6, _, ⟨F, nf, cf, xs, e, q1, q2, q3, q4⟩ => ⟨F, nf, cf, xs, e, q1, q2, q3, (q4.btw k (.inr (by omega))).wide (Nat.le_refl _) k.size⟩
  | 7, _, ⟨A, n, c, C, d, e, q⟩ => ⟨A, n, c, C, d, e, q.btw hS k⟩
  | 8, _, ⟨A, n, c, C, d, e, q⟩ => ⟨A, n, c, C, d, e, q.btw hS k⟩
  | 9, _, ⟨A, n, c, C, d, e, q⟩ => ⟨A, n, c, C, d, e, q.btw hS k⟩
  | 11, _, ⟨h9, A, n, c, C, m, d, e, q, X9⟩ => ⟨h9, A, n, c, C, m, d, e, q, X9.btw k (.inr (by omega))⟩
  | 12, _, ⟨h9, A, n, c, C, d, e, q, X9, g⟩ => ⟨h9, A, n, c, C, d, e, q, X9.btw k (.inr (by omega)), g.btw hS k⟩
  | _ + 14, _, _ => trivial
theorem fmF_below {b lo : Nat} {dv : Value} {G : Int} {W W' : World} (k : Below W.heap.size W W') : ∀ (j : Nat) (t : Nat → Value), fmF b lo dv G j t W → fmF b lo dv G j t W'
  | 0, _, e | 1, _, e | 3, _, e | 4, _, e | 5, _, e | 10, _, e | 13, _, e => e
  | 2, _, ⟨P, cp, ps, e, q1, q2, q3⟩ => ⟨P, cp, ps, e, q1, q2, (q3.btw (Btw.of_below k 0 0) (.inr (Nat.zero_le _))).wide (Nat.le_refl _) k.size⟩
  | 6, _, ⟨F, nf, cf, xs, e, q1, q2, q3, q4⟩ => ⟨F, nf, cf, xs, e, q1, q2, q3, (q4.btw (Btw.of_below k 0 0) (.inr (Nat.zero_le _))).wide (Nat.le_refl _) k.size⟩
  | 7, _, ⟨A, n, c, C, d, e, q⟩ => ⟨A, n, c, C, d, e, q.below k⟩
  | 8, _, ⟨A, n, c, C, d, e, q⟩ => ⟨A, n, c, C, d, e, q.below k⟩
  | 9, _, ⟨A, n, c, C, d, e, q⟩ => ⟨A, n, c, C, d, e, q.below k⟩
  | 11, _, ⟨h9, A, n, c, C, m, d, e, q, X9⟩ => ⟨h9, A, n, c, C, m, d, e, q, X9.step k⟩
  | 12, _, ⟨h9, A, n, c, C, d, e, q, X9, g⟩ => ⟨h9, A, n, c, C, d, e, q, X9.step k, g.below k⟩
  | _ + 14, _, _ => trivial
theorem fmF_row {b lo : Nat} {dv : Value} {G : Int} {W : World} {h : Nat} {A0 C0 A1 C1 : Option Addr} {n0 c0 m0 d0 n1 c1 m1 d1 : Nat} (X : Box W h 26 #[.slice A0 n0 c0, .slice C0 m0 d0]) : ∀ (j : Nat) (t : Nat → Value), j ≠ 12 → fmF b lo dv G j t W → fmF b lo dv G j t (W.setRow h #[.slice A1 n1 c1, .slice C1 m1 d1])
  | 0, _, _, e | 1, _, _, e | 3, _, _, e | 4, _, _, e | 5, _, _, e | 10, _, _, e | 13, _, _, e => e
  | 2, _, _, ⟨P, cp, ps, e, q1, q2, q3⟩ => ⟨P, cp, ps, e, q1, q2, (ownS_setRow q3 X _).wide (Nat.le_refl _) (Nat.le_of_eq (size_setRow _ _ _).symm)⟩
  | 6, _, _, ⟨F, nf, cf, xs, e, q1, q2, q3, q4⟩ => ⟨F, nf, cf, xs, e, q1, q2, q3, (ownI_setRow q4 X _).wide (Nat.le_refl _) (Nat.le_of_eq (size_setRow _ _ _).symm)⟩
  | 7, _, _, ⟨A, n, c, C, d, e, q⟩ => ⟨A, n, c, C, d, e, q.row X _⟩
  | 8, _, _, ⟨A, n, c, C, d, e, q⟩ => ⟨A, n, c, C, d, e, q.row X _⟩
  | 9, _, _, ⟨A, n, c, C, d, e, q⟩ => ⟨A, n, c, C, d, e, q.row X _⟩
  | 11, _, _, ⟨h9, A, n, c, C, m, d, e, q, X9⟩ => by
    by_cases hh : h9 = h
    · subst hh; exact ⟨h9, _, _, _, _, _, _, e, q, X9.setRow' _⟩
    · exact ⟨h9, A, n, c, C, m, d, e, q, X9.farRow' hh _⟩
  | 12, _, hne, _ => (hne rfl).elim
  | _ + 14, _, _, _ => trivial
def cntF (L : Nat → Bool) : Nat := (if L 2 then 68 else 0) + (if L 4 then 1 else 0) + (if L 6 then 4 else 0)
theorem cntF_le (L : Nat → Bool) : cntF L ≤ 73 := by unfold cntF; (repeat' split) <;> omega
def FmC (wr : World) (b : Nat) (A : Option Addr) (n c : Nat) (zs : List Nat) (K D : Nat) (A1 : Option Addr) (n1 c1 : Nat) (C1 : Option Addr) (d1 : Nat) (G : Int) (L : Nat → Bool) (W : World) : Prop :=
  Src W b A n c zs (K + cntF L) ∧ Btw b (b + 1) wr W ∧ Box W D 26 #[.slice A1 n1 c1, .slice C1 0 d1] ∧ GoodD W A1 n1 G
set_option maxRecDepth 100000 in
theorem infoDisk2 : (Try.prog.info? 26).map (·.size) = some 2 := by kernel_rfl
theorem one2s {A C : Option Addr} {n c m d : Nat} : (#[.slice A n c, .slice C m d] : Array Value).all (·.oneCell') = true := by simp [Value.oneCell']
def GivesForm (w : World) (b : Nat) (e : Ending) (w' : World) : Prop :=
  ∃ ss A n c C d g z sl, e = .returned (.agg #[.slice A n c, .slice C 0 d]) ∧ Hid (ss.length = n) ∧ Hid (OwnS w' w.heap.size w'.heap.size A ss) ∧ Hid (FD ss g z sl ∧ g ≤ 4) ∧ Btw b (b + 1) w w'
set_option maxRecDepth 100000 in
set_option maxHeartbeats 8000000 in
theorem srcForm (b : Nat) (A : Option Addr) (n c : Nat) (zs : List Nat) (K : Nat) (w : World) (hn : n ≤ maxLen) (hK : K ≤ 1000) (h : Src w b A n c zs K) :
    Calls Try.prog 25 #[.pointer (some ⟨b, 0, none⟩)] w (GivesForm w b) := by
  have hlt : b < w.heap.size := h.lt
  have HNl := Lib.hid hn
  obtain ⟨W0, hW0⟩ : ∃ W0, W0 = w.alloc (.cells #[.slice none 0 0, .slice none 0 0] 26) := ⟨_, rfl⟩
  have hb0 : Below w.heap.size w W0 := by rw [hW0]; exact alloc_below _ _
  have HY0 : Hid (Box W0 w.heap.size 26 #[.slice none 0 0, .slice none 0 0]) := Lib.hid (by rw [hW0]; exact Box.new _ _ _)
  obtain ⟨k0, s0, hk0, hx0⟩ := (h.below hb0 hlt).exact
  have HP0 := Lib.hid (srcPages b A n c zs k0 s0 W0 (by omega) hx0)
  have HW0 := Lib.hid hW0
  clear h hW0 hx0 hn
  go_enter Try.func25, Try.ntmps25
  go_wp2_with fail
  rw [← HW0.out]
  refine HP0.out.mono ?_
  rintro e w1 ⟨P1, cp1, rfl, O1, S1, k1⟩
  have hps1 := Lib.hid (And.intro (pagesN_len zs k0 s0 17) (pagesN_size zs k0 s0 17))
  have hat := pagesN_at zs k0 s0 17
  have HS1 : Hid (Src w1 b A n c zs (K + 68)) := Lib.hid (S1.out.src (by omega))
  generalize (pagesN zs k0 s0 17).1 = ps1 at O1 hps1
  have HY1 := Lib.hid (HY0.out.btw k1 (.inr (by omega)))
  have HB1 : Hid (Btw b (b + 1) w w1) := Lib.hid ((Btw.of_below hb0 b (b + 1)).trans k1)
  clear S1 hat HP0 HW0 HY0 k1 hb0 hk0
  have HFm := Lib.hid (l02Format P1 cp1 ps1 w1 hps1.out.1 O1.out.reads)
  obtain ⟨F1, F2⟩ := fmt_fd ps1 hps1.out.1 hps1.out.2
  have HFd := Lib.hid F1
  clear F1 F2 O1
  go_wp2_with fail
  refine HFm.out.mono ?_
  rintro e w2 ⟨A2, n2, c2, C2, m2, d2, rfl, L2, M2, S2, R2, k2⟩
  obtain rfl : m2 = 0 := M2.out.symm
  have hsz1 : w.heap.size < w1.heap.size := HY1.out.lt
  have HG2 : Hid (GoodD w2 A2 n2 1) := Lib.hid ⟨_, _, _, _, L2.out, S2.out.reads, HFd.out, Int.le_refl _⟩
  have HS2 := Lib.hid (HS1.out.below k2 (by omega))
  have HY2 := Lib.hid (HY1.out.step k2)
  have HB2 : Hid (Btw b (b + 1) w w2) := Lib.hid (HB1.out.trans (Btw.of_below k2 _ _))
  have hsz2 : w.heap.size < w2.heap.size := HY2.out.lt
  clear HFm HFd HS1 HY1 HB1 L2 M2 S2 R2 k2 hps1 hsz1
  obtain ⟨W3, hW3⟩ : ∃ W3, W3 = w2.alloc (.cells #[.slice A2 n2 c2, .slice C2 0 d2] 26) := ⟨_, rfl⟩
  have k3 : Below w2.heap.size w2 W3 := by rw [hW3]; exact alloc_below _ _
  have HX3 : Hid (Box W3 w2.heap.size 26 #[.slice A2 n2 c2, .slice C2 0 d2]) := Lib.hid (by rw [hW3]; exact Box.new _ _ _)
  have HG3 := Lib.hid (HG2.out.below k3)
  have HS3 := Lib.hid (HS2.out.below k3 (by omega))
  have HY3 := Lib.hid (HY2.out.step k3)
  have HB3 : Hid (Btw b (b + 1) w W3) := Lib.hid (HB2.out.trans (Btw.of_below k3 _ _))
  have HNx := Lib.hid (srcNext 4 b A n c zs (K + 68) W3 (by omega) (by omega) (by omega) HS3.out)
  clear HG2 HS2 HY2 HB2 k3
  go_wp2_with fail
  rw [← hW3]
  obtain ⟨D, hD⟩ : ∃ D, D = w2.heap.size := ⟨_, rfl⟩
  rw [← hD] at HX3 hsz2 ⊢
  clear hW3 hD
  refine HNx.out.mono ?_
  rintro e w4 ⟨v, rfl, hv, S4, k4⟩
  have HX4 := Lib.hid (HX3.out.btw k4 (.inr (by omega)))
  have HG4 := Lib.hid (HG3.out.btw HS3.out k4)
  have HY4 := Lib.hid (HY3.out.btw k4 (.inr (by omega)))
  have HB4 := Lib.hid (HB3.out.trans k4)
  have HS4 := S4
  clear HNx HX3 HG3 HS3 HY3 HB3 k4 S4
  go_wp2
  go_loopw [4] (fun q wr => ∃ i : Nat, i ≤ 3 ∧ q = .int .i64 i ∧ Hid (∃ A1 n1 c1 C1 d1, Box wr D 26 #[.slice A1 n1 c1, .slice C1 0 d1] ∧ GoodD wr A1 n1 ((4 - i : Nat) : Int)) ∧ Hid (Box wr w.heap.size 26 #[.slice none 0 0, .slice none 0 0]) ∧ Hid (Src wr b A n c zs (K + 69 + 73 * (3 - i))) ∧ Hid (Btw b (b + 1) w wr)) (fun q _ => (intOf q).toNat)
  case atStart => exact ⟨v, by omega, rfl, Lib.hid ⟨_, _, _, _, _, HX4.out, HG4.out.mono (by omega)⟩, HY4, Lib.hid (HS4.out.mono (by omega)), HB4⟩
  case round =>
    obtain ⟨i, hi3, rfl, HI, HY, HS, HB⟩ := hrel
    clear HX4 HG4 HY4 HB4 HS4
    by_cases hi : 0 < i
    · have hi' : (0 : Int) < (i : Int) := by omega
      obtain ⟨A1, n1, c1, C1, d1, X, G⟩ := HI.out
      have HX := Lib.hid X
      have HG := Lib.hid G
      clear HI X G
      have hlo : b < wr.heap.size := HS.out.lt
      have hloD := HX.out.lt
      obtain ⟨GG, hGG⟩ : ∃ GG : Int, GG = ((4 - i : Nat) : Int) := ⟨_, rfl⟩
      obtain ⟨KK, hKK⟩ : ∃ KK, KK = K + 69 + 73 * (3 - i) := ⟨_, rfl⟩
      rw [← hGG] at HG
      rw [← hKK] at HS
      have hC0 : FmC wr b A n c zs KK D A1 n1 c1 C1 d1 GG (fun _ => false) wr.drew := ⟨by simpa [cntF] using HS.out.drew, (Btw.refl _ _ _).drew, HX.out.drew, by
        obtain ⟨ss, g, z, sl, q1, q2, q3⟩ := HG.out
        exact ⟨ss, g, z, sl, q1, q2.below (Below.refl _ _).drew, q3⟩⟩
      have HKs : Hid (KK ≤ 2000 ∧ 0 ≤ GG ∧ GG ≤ 4) := Lib.hid (by omega)
      have HEq := Lib.hid (And.intro hGG hKK)
      clear HX HS HG hGG hKK
      go_wp2_with fail
      refine wp_region_sets (by kernel_rfl) [[17], [18], [19], [20], [21], [22], [23], [24], [16], [25], [26], [5], [5], [6]] [[], [], [1], [], [1, 2, 3], [], [1, 2, 3, 4, 5], [0, 1, 2, 3, 4, 5, 6], [0, 1, 2, 3, 4, 5, 6, 7], [0, 1, 2, 3, 4, 5, 6, 7, 8], [0, 1, 2, 3, 4, 5, 6, 7, 8], [], [0, 1, 2, 3, 4, 5, 6, 7, 8, 9, 11], [0, 1, 2, 3, 4, 5, 6, 7, 8, 9, 10, 11, 12]] [0, 1, 2, 3, 4, 7, 8, 9, 10, 11, 28, 29] (by kernel_rfl) (FmC wr b A n c zs KK D A1 n1 c1 C1 d1 GG) (fmF b wr.heap.size (.agg #[.slice A1 n1 c1, .slice C1 0 d1]) GG) hC0 ?_ ?_
      · refine ⟨?_, ?_, ?_, ?_, ?_, ?_, ?_, ?_, ?_, ?_, ?_, ?_, ?_, ?_, trivial⟩
        · intro L T W hT hs hLi hLb hLc hC hF K9 hK
          obtain ⟨t0, t1, t2, t3, t4, t5, t6, t7, t8, t9, t10, t11, t12, t13, t14, t15, t16, t17, t18, t19, t20, t21, t22, t23, t24, t25, t26, t27, t28, t29, rfl⟩ := arr30f T hT
          obtain rfl : t0 = .pointer (some ⟨b, 0, none⟩) := hs 0 (by decide)
          obtain rfl : t3 = .pointer (some ⟨D, 0, none⟩) := hs 3 (by decide)
          clear hF hs hT hLb hLc
          obtain ⟨hS, hB, hX, hG⟩ := hC
          have y0 := hX.cell 0 rfl
          have y1 := hX.cell 1 rfl
          have hC : FmC wr b A n c zs KK D A1 n1 c1 C1 d1 GG L W := ⟨hS, hB, hX, hG⟩
          clear hS hB hX hG
          go_simp
          exact hK.out _ W (by unfold FmC at hC ⊢; simpa [cntF] using hC) (fun _ _ _ h => h) rfl
        · intro L T W hT hs hLi hLb hLc hC hF K9 hK
          obtain ⟨t0, t1, t2, t3, t4, t5, t6, t7, t8, t9, t10, t11, t12, t13, t14, t15, t16, t17, t18, t19, t20, t21, t22, t23, t24, t25, t26, t27, t28, t29, rfl⟩ := arr30f T hT
          obtain rfl : t0 = .pointer (some ⟨b, 0, none⟩) := hs 0 (by decide)
          obtain rfl : t3 = .pointer (some ⟨D, 0, none⟩) := hs 3 (by decide)
          clear hF hs hT hLb hLc
          go_simp
          exact hK.out _ W (by unfold FmC at hC ⊢; simpa [cntF] using hC) (fun _ _ _ h => h) rfl
        · intro L T W hT hs hLi hLb hLc hC hF K9 hK
          obtain ⟨t0, t1, t2, t3, t4, t5, t6, t7, t8, t9, t10, t11, t12, t13, t14, t15, t16, t17, t18, t19, t20, t21, t22, t23, t24, t25, t26, t27, t28, t29, rfl⟩ := arr30f T hT
          obtain rfl : t0 = .pointer (some ⟨b, 0, none⟩) := hs 0 (by decide)
          obtain rfl : t3 = .pointer (some ⟨D, 0, none⟩) := hs 3 (by decide)
          have f1 := hF 1 (by decide)
          simp only [fmF, mask] at f1
          have l4 : L 4 = false := by
            cases e : L 4 with
            | false => rfl
            | true => have := hLc 4 e 2 (by decide); rw [hLi] at this; cases this
          have l6 : L 6 = false := by
            cases e : L 6 with
            | false => rfl
            | true => have := hLc 6 e 2 (by decide); rw [hLi] at this; cases this
          have l7 : L 7 = false := by
            cases e : L 7 with
            | false => rfl
            | true => have := hLc 7 e 2 (by decide); rw [hLi] at this; cases this
          have ec : cntF L = 0 := by unfold cntF; simp [hLi, l4, l6]
          have ed : cntF (fun j => if j = 2 then true else L j) = 68 := by unfold cntF; simp [l4, l6]
          subst f1
          obtain ⟨hS, hB, hX, hG⟩ := hC
          rw [ec] at hS
          obtain ⟨k0, s0, hk0, hx⟩ := hS.exact
          have HN := Lib.hid (srcPages b A n c zs k0 s0 W (by have := HKs.out; omega) hx)
          have HH := Lib.hid (And.intro hS (And.intro hB (And.intro hX hG)))
          have hat := pagesN_at zs k0 s0 17
          clear hF hs hT hLb hLc ec hS hB hX hG hLi hx l4 l6 l7
          go_simp
          refine HN.out.mono ?_
          rintro e w1 ⟨P, cp, rfl, O, S1, k1⟩
          obtain ⟨hS, hB, hX, hG⟩ := HH.out
          refine hK.out _ w1 ⟨by rw [ed]; exact S1.out.src (by omega), hB.trans k1, hX.btw k1 (.inr (by omega)), hG.btw hS k1⟩ (fun j t _ h => fmF_btw hS k1 hlo j t h) ⟨P, cp, _, rfl, pagesN_len _ _ _ _, pagesN_size _ _ _ _, O.out.wide hB.size (Nat.le_refl _)⟩
        · intro L T W hT hs hLi hLb hLc hC hF K9 hK
          obtain ⟨t0, t1, t2, t3, t4, t5, t6, t7, t8, t9, t10, t11, t12, t13, t14, t15, t16, t17, t18, t19, t20, t21, t22, t23, t24, t25, t26, t27, t28, t29, rfl⟩ := arr30f T hT
          obtain rfl : t0 = .pointer (some ⟨b, 0, none⟩) := hs 0 (by decide)
          obtain rfl : t3 = .pointer (some ⟨D, 0, none⟩) := hs 3 (by decide)
          clear hF hs hT hLb hLc
          go_simp
          exact hK.out _ W (by unfold FmC at hC ⊢; simpa [cntF] using hC) (fun _ _ _ h => h) rfl
        · intro L T W hT hs hLi hLb hLc hC hF K9 hK
          obtain ⟨t0, t1, t2, t3, t4, t5, t6, t7, t8, t9, t10, t11, t12, t13, t14, t15, t16, t17, t18, t19, t20, t21, t22, t23, t24, t25, t26, t27, t28, t29, rfl⟩ := arr30f T hT
          obtain rfl : t0 = .pointer (some ⟨b, 0, none⟩) := hs 0 (by decide)
          obtain rfl : t3 = .pointer (some ⟨D, 0, none⟩) := hs 3 (by decide)
          have f3 := hF 3 (by decide)
          simp only [fmF, mask] at f3
          have l2 : L 2 = true := hLb 2 (by decide)
          have l6 : L 6 = false := by
            cases e : L 6 with
            | false => rfl
            | true => have := hLc 6 e 4 (by decide); rw [hLi] at this; cases this
          have l7 : L 7 = false := by
            cases e : L 7 with
            | false => rfl
            | true => have := hLc 7 e 4 (by decide); rw [hLi] at this; cases this
          have ec : cntF L = 68 := by unfold cntF; simp [hLi, l2, l6]
          have ed : cntF (fun j => if j = 4 then true else L j) = 69 := by unfold cntF; simp [l2, l6]
          subst f3
          obtain ⟨hS, hB, hX, hG⟩ := hC
          rw [ec] at hS
          have HN := Lib.hid (srcNext 3 b A n c zs (KK + 68) W (by omega) (by omega) (by have := HKs.out; omega) hS)
          have HH := Lib.hid (And.intro hS (And.intro hB (And.intro hX hG)))
          clear hF hs hT hLb hLc ec hS hB hX hG hLi l2 l6 l7
          go_simp
          refine HN.out.mono ?_
          rintro e w1 ⟨v, rfl, hv, S1, k1⟩
          obtain ⟨hS, hB, hX, hG⟩ := HH.out
          refine hK.out _ w1 ⟨by rw [ed]; exact S1.out, hB.trans k1, hX.btw k1 (.inr (by omega)), hG.btw hS k1⟩ (fun j t _ h => fmF_btw hS k1 hlo j t h) ⟨v, rfl, by omega⟩
        · intro L T W hT hs hLi hLb hLc hC hF K9 hK
          obtain ⟨t0, t1, t2, t3, t4, t5, t6, t7, t8, t9, t10, t11, t12, t13, t14, t15, t16, t17, t18, t19, t20, t21, t22, t23, t24, t25, t26, t27, t28, t29, rfl⟩ := arr30f T hT
          obtain rfl : t0 = .pointer (some ⟨b, 0, none⟩) := hs 0 (by decide)
          obtain rfl : t3 = .pointer (some ⟨D, 0, none⟩) := hs 3 (by decide)
          clear hF hs hT hLb hLc
          go_simp
          exact hK.out _ W (by unfold FmC at hC ⊢; simpa [cntF] using hC) (fun _ _ _ h => h) rfl
        · intro L T W hT hs hLi hLb hLc hC hF K9 hK
          obtain ⟨t0, t1, t2, t3, t4, t5, t6, t7, t8, t9, t10, t11, t12, t13, t14, t15, t16, t17, t18, t19, t20, t21, t22, t23, t24, t25, t26, t27, t28, t29, rfl⟩ := arr30f T hT
          obtain rfl : t0 = .pointer (some ⟨b, 0, none⟩) := hs 0 (by decide)
          obtain rfl : t3 = .pointer (some ⟨D, 0, none⟩) := hs 3 (by decide)
          have f5 := hF 5 (by decide)
          simp only [fmF, mask] at f5
          have l2 : L 2 = true := hLb 2 (by decide)
          have l4 : L 4 = true := hLb 4 (by decide)
          have l7 : L 7 = false := by
            cases e : L 7 with
            | false => rfl
            | true => have := hLc 7 e 6 (by decide); rw [hLi] at this; cases this
          have ec : cntF L = 69 := by unfold cntF; simp [hLi, l2, l4]
          have ed : cntF (fun j => if j = 6 then true else L j) = 73 := by unfold cntF; simp [l2, l4]
          subst f5
          obtain ⟨hS, hB, hX, hG⟩ := hC
          rw [ec] at hS
          obtain ⟨k0, s0, hk0, hx⟩ := hS.exact
          have HN := Lib.hid (srcFatesS b A n c zs k0 s0 (KK + 69) W hk0 (by have := HKs.out; omega) hx)
          have HH := Lib.hid (And.intro hS (And.intro hB (And.intro hX hG)))
          clear hF hs hT hLb hLc ec hS hB hX hG hLi hx l2 l4 l7
          go_simp
          refine HN.out.mono ?_
          rintro e w1 ⟨F, nf, cf, xs, rfl, hxl, hn3, hok, O, S1, k1⟩
          obtain ⟨hS, hB, hX, hG⟩ := HH.out
          refine hK.out _ w1 ⟨by rw [ed]; exact S1.out, hB.trans k1, hX.btw k1 (.inr (by omega)), hG.btw hS k1⟩ (fun j t _ h => fmF_btw hS k1 hlo j t h) ⟨F, nf, cf, xs, rfl, hxl.out, hn3, hok, O.out.wide hB.size (Nat.le_refl _)⟩
        · intro L T W hT hs hLi hLb hLc hC hF K9 hK
          obtain ⟨t0, t1, t2, t3, t4, t5, t6, t7, t8, t9, t10, t11, t12, t13, t14, t15, t16, t17, t18, t19, t20, t21, t22, t23, t24, t25, t26, t27, t28, t29, rfl⟩ := arr30f T hT
          obtain rfl : t0 = .pointer (some ⟨b, 0, none⟩) := hs 0 (by decide)
          obtain rfl : t3 = .pointer (some ⟨D, 0, none⟩) := hs 3 (by decide)
          have f0 := hF 0 (by decide)
          simp only [fmF, mask] at f0
          have f2 := hF 2 (by decide)
          simp only [fmF, mask] at f2
          have f4 := hF 4 (by decide)
          simp only [fmF, mask] at f4
          have f6 := hF 6 (by decide)
          simp only [fmF, mask] at f6
          subst f0
          obtain ⟨P, cp, ps, e, q1, q2, q3⟩ := f2
          subst e
          obtain ⟨v9, e, hv9⟩ := f4
          subst e
          obtain ⟨F, nf, cf, xs, e, r1, r2, r3, r4⟩ := f6
          subst e
          obtain ⟨hS, hB, hX, ss, g, z, sl, g1, g2, g3, g4⟩ := hC
          have hfb : fateB (v9 : Int) = true := by unfold fateB; simp; omega
          have hgs := HKs.out
          have HT := Lib.hid (g3.torn (ps := ps) (by omega) q1 q2 v9 xs hv9 r3 (by omega))
          have HN := Lib.hid (l02Torn A1 C1 P F n1 c1 d1 cp nf cf v9 ss ps xs W g1 (ask_ok g3 q1 q2) r1 (by unfold maxLen; omega) (by omega) ⟨hfb, r3⟩ g2 q3.reads r4.reads)
          have HH := Lib.hid (And.intro hS (And.intro hB hX))
          have HG := Lib.hid (show GoodD W A1 n1 GG from ⟨ss, g, z, sl, g1, g2, g3, g4⟩)
          have HF2 := Lib.hid hlo
          have HLt := Lib.hid hS.lt
          clear hF hs hT hLb hLc hS hB hX g1 g2 g3 q1 q2 q3 r1 r2 r3 r4 hfb hgs hLi
          go_simp
          refine HN.out.mono ?_
          rintro e w1 ⟨A3, n3, c3, C3, d3, rfl, L3, S3, k1⟩
          obtain ⟨hS, hB, hX⟩ := HH.out
          obtain ⟨t0, g', z', sl', t1, t2, -⟩ := HT.out
          rw [t0]
          refine hK.out _ w1 ⟨by simpa [cntF] using hS.below k1 HLt.out, hB.trans (Btw.of_below k1 _ _), hX.step k1, HG.out.below k1⟩ (fun j t _ h => fmF_below k1 j t h) ⟨A3, n3, c3, C3, d3, rfl, _, g', z', sl', L3.out, S3.out, t2, by omega⟩
        · intro L T W hT hs hLi hLb hLc hC hF K9 hK
          obtain ⟨t0, t1, t2, t3, t4, t5, t6, t7, t8, t9, t10, t11, t12, t13, t14, t15, t16, t17, t18, t19, t20, t21, t22, t23, t24, t25, t26, t27, t28, t29, rfl⟩ := arr30f T hT
          obtain rfl : t0 = .pointer (some ⟨b, 0, none⟩) := hs 0 (by decide)
          obtain rfl : t3 = .pointer (some ⟨D, 0, none⟩) := hs 3 (by decide)
          have f7 := hF 7 (by decide)
          simp only [fmF, mask] at f7
          obtain ⟨A3, n3, c3, C3, d3, e, q⟩ := f7
          subst e
          have HQ := Lib.hid q
          clear q
          clear hF hs hT hLb hLc
          go_simp
          exact hK.out _ W (by unfold FmC at hC ⊢; simpa [cntF] using hC) (fun _ _ _ h => h) ⟨A3, n3, c3, C3, d3, rfl, HQ.out⟩
        · intro L T W hT hs hLi hLb hLc hC hF K9 hK
          obtain ⟨t0, t1, t2, t3, t4, t5, t6, t7, t8, t9, t10, t11, t12, t13, t14, t15, t16, t17, t18, t19, t20, t21, t22, t23, t24, t25, t26, t27, t28, t29, rfl⟩ := arr30f T hT
          obtain rfl : t0 = .pointer (some ⟨b, 0, none⟩) := hs 0 (by decide)
          obtain rfl : t3 = .pointer (some ⟨D, 0, none⟩) := hs 3 (by decide)
          have f8 := hF 8 (by decide)
          simp only [fmF, mask] at f8
          obtain ⟨A3, n3, c3, C3, d3, e, q⟩ := f8
          subst e
          have HQ := Lib.hid q
          clear q
          clear hF hs hT hLb hLc
          go_simp
          exact hK.out _ W (by unfold FmC at hC ⊢; simpa [cntF] using hC) (fun _ _ _ h => h) ⟨A3, n3, c3, C3, d3, rfl, HQ.out⟩
        · intro L T W hT hs hLi hLb hLc hC hF K9 hK
          obtain ⟨t0, t1, t2, t3, t4, t5, t6, t7, t8, t9, t10, t11, t12, t13, t14, t15, t16, t17, t18, t19, t20, t21, t22, t23, t24, t25, t26, t27, t28, t29, rfl⟩ := arr30f T hT
          obtain rfl : t0 = .pointer (some ⟨b, 0, none⟩) := hs 0 (by decide)
          obtain rfl : t3 = .pointer (some ⟨D, 0, none⟩) := hs 3 (by decide)
          have f8 := hF 8 (by decide)
          simp only [fmF, mask] at f8
          obtain ⟨A3, n3, c3, C3, d3, e, q⟩ := f8
          subst e
          clear q
          clear hF hs hT hLb hLc
          go_simp
          exact hK.out _ W (by unfold FmC at hC ⊢; simpa [cntF] using hC) (fun _ _ _ h => h) rfl
        · intro L T W hT hs hLi hLb hLc hC hF K9 hK
          obtain ⟨t0, t1, t2, t3, t4, t5, t6, t7, t8, t9, t10, t11, t12, t13, t14, t15, t16, t17, t18, t19, t20, t21, t22, t23, t24, t25, t26, t27, t28, t29, rfl⟩ := arr30f T hT
          obtain rfl : t0 = .pointer (some ⟨b, 0, none⟩) := hs 0 (by decide)
          obtain rfl : t3 = .pointer (some ⟨D, 0, none⟩) := hs 3 (by decide)
          clear hF hs hT hLb hLc
          have k0 := alloc_below W (.cells #[.slice none 0 0, .slice none 0 0] 26)
          have X0 := Lib.hid (Box.new W 26 #[.slice none 0 0, .slice none 0 0])
          have HC := Lib.hid hC
          clear hC
          go_simp
          obtain ⟨hS, hB, hX, hG⟩ := HC.out
          exact hK.out _ _ ⟨by simpa [cntF] using hS.below k0 hS.lt, hB.trans (Btw.of_below k0 _ _), hX.step k0, hG.below k0⟩ (fun j t _ h => fmF_below k0 j t h) ⟨W.heap.size, _, _, _, _, _, _, rfl, hB.size, X0.out⟩
        · intro L T W hT hs hLi hLb hLc hC hF K9 hK
          obtain ⟨t0, t1, t2, t3, t4, t5, t6, t7, t8, t9, t10, t11, t12, t13, t14, t15, t16, t17, t18, t19, t20, t21, t22, t23, t24, t25, t26, t27, t28, t29, rfl⟩ := arr30f T hT
          obtain rfl : t0 = .pointer (some ⟨b, 0, none⟩) := hs 0 (by decide)
          obtain rfl : t3 = .pointer (some ⟨D, 0, none⟩) := hs 3 (by decide)
          have f9 := hF 9 (by decide)
          simp only [fmF, mask] at f9
          have f11 := hF 11 (by decide)
          simp only [fmF, mask] at f11
          obtain ⟨A3, n3, c3, C3, d3, e, q⟩ := f9
          subst e
          obtain ⟨h, A4, n4, c4, C4, m4, d4, e, hq, X⟩ := f11
          subst e
          obtain ⟨hS, hB, hX, hG⟩ := hC
          have k1 : Btw h (h + 1) W (W.setRow h #[.slice A3 n3 c3, .slice C3 0 d3]) := btw_setRow' (Btw.refl _ _ _) (Nat.le_refl _) (Nat.lt_succ_self _) _
          have k2 : Below wr.heap.size W (W.setRow h #[.slice A3 n3 c3, .slice C3 0 d3]) := (k1.below (Nat.le_of_lt X.lt)).mono hq
          refine wp_store_row 26 (.tmp 5) (.tmp 25) rfl h #[.slice A3 n3 c3, .slice C3 0 d3] rfl rfl 26 _ X infoDisk2 rfl one2s ?_
          exact hK.out _ _ ⟨by simpa [cntF] using hS.below k2 hlo, btw_below hB k2 (Nat.le_refl _), hX.farRow' (by omega) _, hG.row X _⟩ (fun j t m h => fmF_row X j t m h) ⟨h, A3, n3, c3, C3, d3, rfl, hq, X.setRow' _, q.row X _⟩
        · intro L T W hT hs hLi hLb hLc hC hF K9 hK
          obtain ⟨t0, t1, t2, t3, t4, t5, t6, t7, t8, t9, t10, t11, t12, t13, t14, t15, t16, t17, t18, t19, t20, t21, t22, t23, t24, t25, t26, t27, t28, t29, rfl⟩ := arr30f T hT
          obtain rfl : t0 = .pointer (some ⟨b, 0, none⟩) := hs 0 (by decide)
          obtain rfl : t3 = .pointer (some ⟨D, 0, none⟩) := hs 3 (by decide)
          have f10 := hF 10 (by decide)
          simp only [fmF, mask] at f10
          subst f10
          clear hF hs hT hLb hLc
          go_simp
          exact hK.out _ W (by unfold FmC at hC ⊢; simpa [cntF] using hC) (fun _ _ _ h => h) rfl
      · intro T W hT hs hC hF
        obtain ⟨t0, t1, t2, t3, t4, t5, t6, t7, t8, t9, t10, t11, t12, t13, t14, t15, t16, t17, t18, t19, t20, t21, t22, t23, t24, t25, t26, t27, t28, t29, rfl⟩ := arr30f T hT
        obtain rfl : t0 = .pointer (some ⟨b, 0, none⟩) := hs 0 (by decide)
        obtain rfl : t1 = undef := hs 1 (by decide)
        obtain rfl : t2 = .pointer (some ⟨w.heap.size, 0, none⟩) := hs 2 (by decide)
        obtain rfl : t3 = .pointer (some ⟨D, 0, none⟩) := hs 3 (by decide)
        obtain rfl : t4 = .int .i64 (i : Int) := hs 4 (by decide)
        obtain rfl : t7 = .pointer (some ⟨b, 0, none⟩) := hs 7 (by decide)
        obtain rfl : t8 = .slice P1 17 cp1 := hs 8 (by decide)
        obtain rfl : t9 = .agg #[.slice A2 n2 c2, .slice C2 0 d2] := hs 9 (by decide)
        obtain rfl : t10 = .pointer (some ⟨b, 0, none⟩) := hs 10 (by decide)
        obtain rfl : t11 = .int .i64 (v : Int) := hs 11 (by decide)
        obtain rfl : t28 = undef := hs 28 (by decide)
        obtain rfl : t29 = undef := hs 29 (by decide)
        obtain ⟨L, -, hS, hB, hX, hG⟩ := hC
        have f12 := hF 12 (by decide)
        have f13 := hF 13 (by decide)
        simp only [fmF, mask] at f12 f13
        obtain ⟨h, A3, n3, c3, C3, d3, e, hq, XH, GH⟩ := f12
        subst e
        subst f13
        have y0 := XH.cell 0 rfl
        have y1 := XH.cell 1 rfl
        have z0 := hX.cell 0 rfl
        have z1 := hX.cell 1 rfl
        have z2 := hX.frozen 0
        have z3 := hX.frozen 1
        have HHS := Lib.hid (hS.mono (Nat.add_le_add_left (cntF_le L) KK))
        have HHB := Lib.hid hB
        have HHX := Lib.hid hX
        have HHG := Lib.hid GH
        clear hF hs hT hS hB hX hG XH GH hC0
        go_wp2
        obtain ⟨W5, hW5⟩ : ∃ W5, W5 = ((W.setCell ⟨D, 0, none⟩ (.slice A3 n3 c3)).setCell ⟨D, 1, none⟩ (.slice C3 0 d3)) := ⟨_, rfl⟩
        have k5 : Btw D (D + 1) W W5 := by rw [hW5]; exact ((Btw.refl D (D + 1) W).setCell (p := ⟨D, 0, none⟩) (Nat.le_refl _) (Nat.lt_succ_self _) _).setCell (p := ⟨D, 1, none⟩) (Nat.le_refl _) (Nat.lt_succ_self _) _
        have X5 : Hid (Box W5 D 26 #[.slice A3 n3 c3, .slice C3 0 d3]) := Lib.hid (by rw [hW5]; exact (HHX.out.set 0 _).set 1 _)
        have G5 := Lib.hid (HHG.out.off HHX.out k5)
        have q5 : Below w.heap.size W W5 := (k5.below (Nat.le_of_lt HHX.out.lt)).mono (by omega)
        have S5 := Lib.hid (HHS.out.below q5 hlt)
        have Y5 := Lib.hid ((HY.out.btw HHB.out (.inr (by omega))).btw k5 (.inl (by omega)))
        have B5 := Lib.hid (btw_below (HB.out.trans HHB.out) q5 (Nat.le_refl _))
        rw [← hW5]
        clear hW5 k5 q5 HHS HHB HHX HHG y0 y1 z0 z1 z2 z3
        go_roundw
        case rel => exact ⟨i - 1, by omega, by go_num, Lib.hid ⟨_, _, _, _, _, X5.out, G5.out.mono (by have := HEq.out; omega)⟩, Y5, Lib.hid (S5.out.mono (by have := HEq.out; omega)), B5⟩
        case measure => simp [intOf]; omega
    · have hi' : ¬ (0 : Int) < (i : Int) := by omega
      obtain rfl : i = 0 := by omega
      obtain ⟨A1, n1, c1, C1, d1, X, ss, g, z, sl, g1, g2, g3, g4⟩ := HI.out
      have f0 := X.cell 0 rfl
      have f1 := X.cell 1 rfl
      have n48 : n1 ≤ 48 := by have := g3.small.1; omega
      have HC := Lib.hid (l01Own A1 C1 n1 c1 0 d1 ss [] wr g1 rfl (by omega) (by omega) g2 (fun i hi => by simp at hi))
      have HFd : Hid (FD ss g z sl ∧ g ≤ 4) := Lib.hid ⟨g3, by omega⟩
      clear HI X g1 g2 g3 g4
      go_wp2_with fail
      refine HC.out.mono ?_
      rintro e w2 ⟨A3, n3, c3, C3, m3, d3, rfl, L3, M3, S3, R3, hb3⟩
      obtain rfl : m3 = 0 := M3.out.symm
      have Y2 := Lib.hid (HY.out.step hb3)
      have g0 := Y2.out.cell 0 rfl
      have g1 := Y2.out.cell 1 rfl
      have g2 := Y2.out.frozen 0
      have g3 := Y2.out.frozen 1
      clear f0 f1 HC
      go_wp2
      refine bodyPost_ret (v := .agg #[.slice A3 n3 c3, .slice C3 0 d3]) (by simp [results, Try.results25, go_sem, g0, g1]) rfl ?_
      have hszr : w.heap.size ≤ wr.heap.size := HB.out.size
      have es : ((w2.setCell ⟨w.heap.size, 0, none⟩ (.slice A3 n3 c3)).setCell ⟨w.heap.size, 1, none⟩ (.slice C3 0 d3)).heap.size = w2.heap.size := by simp [World.setCell]
      have q1 : Below w.heap.size w2 ((w2.setCell ⟨w.heap.size, 0, none⟩ (.slice A3 n3 c3)).setCell ⟨w.heap.size, 1, none⟩ (.slice C3 0 d3)) := ((Below.refl _ _).setCell (p := ⟨w.heap.size, 0, none⟩) (Nat.le_refl _) _).setCell (p := ⟨w.heap.size, 1, none⟩) (Nat.le_refl _) _
      have Y3 := Y2.out.set 0 (.slice A3 n3 c3)
      exact ⟨ss, A3, n3, c3, C3, 0 + d3, g, z, sl, by simp, L3, Lib.hid (by rw [es]; exact ((S3.out.far Y2.out 0 _).far Y3 1 _).wide hszr (Nat.le_refl _)), HFd, btw_below (btw_below HB.out hb3 hszr) q1 (Nat.le_refl _)⟩
end Go.Proofs.Ytcchhbkbnbphhaa
