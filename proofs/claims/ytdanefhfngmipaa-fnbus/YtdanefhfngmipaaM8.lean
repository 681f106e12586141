/- Texts of this claim, one behind the other: DrawMem, FlashCyc, At2, RegionTop, WalkBus, WalkBus2, Open, OpenBytes. -/
import Derived.Deep.RegionHeld3
import Derived.IntWalk
import Derived.Deep.Slices
import Derived.Lib.SmallJoins
import Derived.Test.YtdanefhfngmipaaM7
/- The source's mem: a drawn valid memory. Written by gen_drawmem.py. -/
namespace Go.Proofs.Ytdanefhfngmipaa
open Go.RowKit

/-- A memory in the making: rows of its own, the source, the result's block. -/
structure MS (w : World) (b : Nat) (A : Option Addr) (n c : Nat) (zs : List Nat) (K D g b0 b1 c0 c1 : Nat) (A2 : Option Addr) (c2 : Nat) (C3 : Option Addr) (c3 : Nat) (st : Int) (zz : List Int) (gg : List Bool) (W : World) : Prop where
  btw : Btw b (b + 1) w W
  s : Src W b A n c zs K
  r : Box W w.heap.size 28 #[.slice none 0 0, .slice none 0 0, .slice none 0 0, .slice none 0 0, .int .i64 0]
  x : Box W D 28 #[.slice (some ⟨b0, 0, none⟩) 256 c0, .slice (some ⟨b1, 0, none⟩) 32 c1, .slice A2 256 c2, .slice C3 16 c3, .int .i64 st]
  R : ∃ ram : List Int, ram.length = 256 ∧ ram.all byB = true ∧ OwnI W w.heap.size g (some ⟨b0, 0, none⟩) ram
  I : ∃ io : List Int, io.length = 32 ∧ io.all byB = true ∧ OwnI W w.heap.size g (some ⟨b1, 0, none⟩) io
  Z : OwnI W g W.heap.size A2 zz
  G : OwnB W g W.heap.size C3 gg
  ne : b0 ≠ b1
  lt : b < w.heap.size
  lg : w.heap.size ≤ g
  dl : w.heap.size + 1 ≤ D
section
variable {w : World} {b : Nat} {A : Option Addr} {n c : Nat} {zs : List Nat} {K D g b0 b1 c0 c1 : Nat} {A2 : Option Addr} {c2 : Nat} {C3 : Option Addr} {c3 : Nat} {st : Int} {zz : List Int} {gg : List Bool} {W W2 : World}
theorem MS.mono {K2 : Nat} (h : MS w b A n c zs K D g b0 b1 c0 c1 A2 c2 C3 c3 st zz gg W) (hk : K ≤ K2) : MS w b A n c zs K2 D g b0 b1 c0 c1 A2 c2 C3 c3 st zz gg W := ⟨h.btw, h.s.mono hk, h.r, h.x, h.R, h.I, h.Z, h.G, h.ne, h.lt, h.lg, h.dl⟩
theorem MS.next {K2 : Nat} (h : MS w b A n c zs K D g b0 b1 c0 c1 A2 c2 C3 c3 st zz gg W) (S : Src W2 b A n c zs K2) (hb : Btw b (b + 1) W W2) : MS w b A n c zs K2 D g b0 b1 c0 c1 A2 c2 C3 c3 st zz gg W2 := by
  have hl := h.lt
  have hg := h.lg
  have hd := h.dl
  refine ⟨h.btw.trans hb, S, h.r.btw hb (.inr (by omega)), h.x.btw hb (.inr (by omega)), ?_, ?_, (h.Z.btw hb (.inr (by omega))).wideB (Nat.le_refl _) hb.size, (h.G.btw hb (.inr (by omega))).wide (Nat.le_refl _) hb.size, h.ne, h.lt, h.lg, h.dl⟩
  · obtain ⟨ram, h1, h2, h3⟩ := h.R; exact ⟨ram, h1, h2, h3.btw hb (.inr (by omega))⟩
  · obtain ⟨io, h1, h2, h3⟩ := h.I; exact ⟨io, h1, h2, h3.btw hb (.inr (by omega))⟩
theorem MS.drew (h : MS w b A n c zs K D g b0 b1 c0 c1 A2 c2 C3 c3 st zz gg W) : MS w b A n c zs K D g b0 b1 c0 c1 A2 c2 C3 c3 st zz gg W.drew := ⟨h.btw.drew, h.s.drew, h.r, h.x, h.R, h.I, h.Z, h.G, h.ne, h.lt, h.lg, h.dl⟩
theorem all_set {l : List Int} {p : Int → Bool} (h : l.all p = true) (k : Nat) (x : Int) (hx : p x = true) : (l.set k x).all p = true := by
  rw [List.all_eq_true] at h ⊢
  intro y hy
  rcases List.mem_or_eq_of_mem_set hy with q | rfl
  · exact h y q
  · exact hx
theorem OwnI.farBlk {w : World} {lo hi b1 b0 : Nat} {zs : List Int} (h : OwnI w lo hi (some ⟨b1, 0, none⟩) zs) (hne : b1 ≠ b0) (v : Nat) (u : Value) : OwnI (w.setCell ⟨b0, v, none⟩ u) lo hi (some ⟨b1, 0, none⟩) zs := by
  have hb : Btw b0 (b0 + 1) w (w.setCell ⟨b0, v, none⟩ u) := (Btw.refl _ _ _).setCell (p := ⟨b0, v, none⟩) (Nat.le_refl _) (Nat.lt_succ_self _) _
  rcases h with e | ⟨g, m, f, e, h1, h2, hm, hr, hf⟩
  · exact .inl e
  · have : b1 = g := by injection e with e; injection e
    exact .inr ⟨g, m, f, e, h1, h2, hm, hb.row hr (by omega), hf⟩
theorem byB_nat {u : Nat} (h : u < 256) : byB (u : Int) = true := by unfold byB; simp; omega
theorem MS.ram (h : MS w b A n c zs K D g b0 b1 c0 c1 A2 c2 C3 c3 st zz gg W) (v u : Nat) (hv : v < 256) (hu : u < 256) : MS w b A n c zs K D g b0 b1 c0 c1 A2 c2 C3 c3 st zz gg (W.setCell ⟨b0, v, none⟩ (.int .i64 (u : Int))) := by
  obtain ⟨ram, l0, a0, O⟩ := h.R
  obtain ⟨io, l1, a1, O1⟩ := h.I
  obtain ⟨b', m, f, e, hc, hf, h1, h2, hr, hput⟩ := O.put v (by omega)
  have eb : b0 = b' := by injection e with e; injection e
  subst eb
  have hb : Btw b0 (b0 + 1) W (W.setCell ⟨b0, v, none⟩ (.int .i64 (u : Int))) := (Btw.refl _ _ _).setCell (p := ⟨b0, v, none⟩) (Nat.le_refl _) (Nat.lt_succ_self _) _
  have q : Below w.heap.size W (W.setCell ⟨b0, v, none⟩ (.int .i64 (u : Int))) := (Below.refl _ _).setCell (p := ⟨b0, v, none⟩) h1 _
  exact ⟨btw_below h.btw q (Nat.le_refl _), h.s.below q h.lt, h.r.other hr (by decide) _ _, h.x.other hr (by decide) _ _, ⟨_, by rw [List.length_set]; exact l0, all_set a0 v _ (byB_nat hu), hput u⟩, ⟨io, l1, a1, O1.farBlk h.ne.symm v _⟩, (h.Z.btw hb (.inr (by omega))).wideB (Nat.le_refl _) (by simp [World.setCell]), (h.G.other hr (by decide) _ _).wide (Nat.le_refl _) (by simp [World.setCell]), h.ne, h.lt, h.lg, h.dl⟩
theorem MS.io (h : MS w b A n c zs K D g b0 b1 c0 c1 A2 c2 C3 c3 st zz gg W) (v u : Nat) (hv : v < 32) (hu : u < 256) : MS w b A n c zs K D g b0 b1 c0 c1 A2 c2 C3 c3 st zz gg (W.setCell ⟨b1, v, none⟩ (.int .i64 (u : Int))) := by
  obtain ⟨ram, l0, a0, O⟩ := h.R
  obtain ⟨io, l1, a1, O1⟩ := h.I
  obtain ⟨b', m, f, e, hc, hf, h1, h2, hr, hput⟩ := O1.put v (by omega)
  have eb : b1 = b' := by injection e with e; injection e
  subst eb
  have hb : Btw b1 (b1 + 1) W (W.setCell ⟨b1, v, none⟩ (.int .i64 (u : Int))) := (Btw.refl _ _ _).setCell (p := ⟨b1, v, none⟩) (Nat.le_refl _) (Nat.lt_succ_self _) _
  have q : Below w.heap.size W (W.setCell ⟨b1, v, none⟩ (.int .i64 (u : Int))) := (Below.refl _ _).setCell (p := ⟨b1, v, none⟩) h1 _
  exact ⟨btw_below h.btw q (Nat.le_refl _), h.s.below q h.lt, h.r.other hr (by decide) _ _, h.x.other hr (by decide) _ _, ⟨ram, l0, a0, O.farBlk h.ne v _⟩, ⟨_, by rw [List.length_set]; exact l1, all_set a1 v _ (byB_nat hu), hput u⟩, (h.Z.btw hb (.inr (by omega))).wideB (Nat.le_refl _) (by simp [World.setCell]), (h.G.other hr (by decide) _ _).wide (Nat.le_refl _) (by simp [World.setCell]), h.ne, h.lt, h.lg, h.dl⟩
theorem MS.cR (h : MS w b A n c zs K D g b0 b1 c0 c1 A2 c2 C3 c3 st zz gg W) (v : Nat) (hv : v < 256) : (∃ y, W.cell? ⟨b0, v, none⟩ = some y) ∧ W.frozen? ⟨b0, v, none⟩ = false := by
  obtain ⟨ram, l0, a0, O⟩ := h.R
  obtain ⟨b', m, f, e, hc, hf, _⟩ := O.put v (by omega)
  have eb : b0 = b' := by injection e with e; injection e
  subst eb
  exact ⟨⟨_, hc⟩, hf⟩
theorem MS.cI (h : MS w b A n c zs K D g b0 b1 c0 c1 A2 c2 C3 c3 st zz gg W) (v : Nat) (hv : v < 32) : (∃ y, W.cell? ⟨b1, v, none⟩ = some y) ∧ W.frozen? ⟨b1, v, none⟩ = false := by
  obtain ⟨io, l0, a0, O⟩ := h.I
  obtain ⟨b', m, f, e, hc, hf, _⟩ := O.put v (by omega)
  have eb : b1 = b' := by injection e with e; injection e
  subst eb
  exact ⟨⟨_, hc⟩, hf⟩
end

theorem RepL.int {w : World} {D : Option Addr} {n g : Nat} {zs : List Int} (h : RepL w (.slice D n g) (.I zs)) : IntL w D zs := by
  obtain ⟨A, c, e, h⟩ := h
  injection e with e _ _
  rw [e]; exact h
theorem RepL.bool {w : World} {D : Option Addr} {n g : Nat} {zs : List Bool} (h : RepL w (.slice D n g) (.B zs)) : BoolL w D zs := by
  obtain ⟨A, c, e, h⟩ := h
  injection e with e _ _
  rw [e]; exact h
theorem zR_all : zR.all byB = true := by unfold zR; rw [List.all_replicate]; rfl
theorem zI_all : zI.all byB = true := by unfold zI; rw [List.all_replicate]; rfl
/-- A drawn memory: valid, of its own. -/
def GivesMemX (w : World) (R : World → Prop) (e : Ending) (w' : World) : Prop :=
  ∃ r i zs gs st A0 A1 A2 A3 c0 c1 c2 c3, Hid (okMem r i zs gs st = true) ∧ e = .returned (.agg #[.slice A0 256 c0, .slice A1 32 c1, .slice A2 256 c2, .slice A3 16 c3, .int .i64 st]) ∧ Hid (OwnA w' w.heap.size w'.heap.size [.slice A0 256 c0, .slice A1 32 c1, .slice A2 256 c2, .slice A3 16 c3] [.I r, .I i, .I zs, .B gs]) ∧ Hid (R w')

set_option maxRecDepth 100000 in
set_option maxHeartbeats 16000000 in
theorem srcMem (b : Nat) (A : Option Addr) (n c : Nat) (zs : List Nat) (K : Nat) (w : World) (hn : n ≤ maxLen) (hK : K ≤ 100) (h : Src w b A n c zs K) :
    Calls Try.prog 42 #[.pointer (some ⟨b, 0, none⟩)] w (GivesMemX w (fun w' => Btw b (b + 1) w w')) := by
  have hlt : b < w.heap.size := h.lt
  obtain ⟨W0, hW0⟩ : ∃ W0, W0 = w.alloc (.cells #[.slice none 0 0, .slice none 0 0, .slice none 0 0, .slice none 0 0, .int .i64 0] 28) := ⟨_, rfl⟩
  have hb0 : Below w.heap.size w W0 := by rw [hW0]; exact alloc_below _ _
  have Y0 : Hid (Box W0 w.heap.size 28 #[.slice none 0 0, .slice none 0 0, .slice none 0 0, .slice none 0 0, .int .i64 0]) := Lib.hid (by rw [hW0]; exact Box.new _ _ _)
  have HP := Lib.hid (srcProgram b A n c zs K W0 hn (by omega) (h.below hb0 hlt))
  have HFl := Lib.hid (fun W (h : Src W b A n c zs (K + 200)) => srcFlash b A n c zs (K + 200) W hn (by omega) h)
  have HNx := Lib.hid (fun N K W (h1 : 2 ≤ N) (h2 : N ≤ 256) (h3 : K ≤ 10000) (h : Src W b A n c zs K) => srcNext N b A n c zs K W h1 h2 (by omega) h)
  have HW0 := Lib.hid hW0
  have hs0 : W0.heap.size = w.heap.size + 1 := by rw [hW0]; simp
  clear h hW0 hn
  go_enter Try.func42, Try.ntmps42
  go_wp2_with fail
  rw [← HW0.out]
  refine HP.out.mono ?_
  rintro e w1 ⟨ps, Ap, cp, hps, rfl, OP, HR1⟩
  have hb1 := HR1.out.2
  have HN := Lib.hid (l05New Ap ps.length cp ps w1 rfl hps.out OP.out.reads)
  have S1 := Lib.hid HR1.out.1
  have Y1 := Lib.hid (Y0.out.btw hb1 (.inr (by omega)))
  have HB1 : Hid (Btw b (b + 1) w w1) := Lib.hid ((Btw.of_below hb0 b (b + 1)).trans hb1)
  have hsz1 : w.heap.size + 1 ≤ w1.heap.size := by have := hb1.size; omega
  clear HP OP HR1 Y0 hb0 hb1 HW0
  go_wp2_with fail
  refine HN.out.mono ?_
  rintro e w2 ⟨B0, B1, B2, B3, c0, c1, c2, c3, rfl, HA, hb2⟩
  obtain ⟨D, hD⟩ : ∃ D, D = w2.heap.size := ⟨_, rfl⟩
  obtain ⟨W3, hW3⟩ : ∃ W3, W3 = w2.alloc (.cells #[.slice B0 256 c0, .slice B1 32 c1, .slice B2 256 c2, .slice B3 16 c3, .int .i64 0] 28) := ⟨_, rfl⟩
  have hb3 : Below w2.heap.size w2 W3 := by rw [hW3]; exact alloc_below _ _
  have X3 : Hid (Box W3 D 28 #[.slice B0 256 c0, .slice B1 32 c1, .slice B2 256 c2, .slice B3 16 c3, .int .i64 0]) := Lib.hid (by rw [hW3, hD]; exact Box.new _ _ _)
  have Y3 := Lib.hid ((Y1.out.step hb2).step hb3)
  have S3 := Lib.hid ((S1.out.below hb2 (by omega)).below hb3 (by have := hb2.size; omega))
  have HB3 : Hid (Btw b (b + 1) w W3) := Lib.hid (btw_below (btw_below HB1.out hb2 (by omega)) hb3 (by have := hb2.size; omega))
  have HA3 := Lib.hid (HA.out.below hb3)
  have HF3 := Lib.hid (HFl.out W3 S3.out)
  have hsz3 : W3.heap.size = w2.heap.size + 1 := by rw [hW3]; simp
  have hsz2 : w.heap.size + 1 ≤ w2.heap.size := by have := hb2.size; omega
  have HW3 := Lib.hid hW3
  clear HN HA hW3 hb2 hb3 Y1 S1 HB1 HFl
  go_wp2_with fail
  rw [← HW3.out]
  refine HF3.out.mono ?_
  rintro e w4 ⟨zz, gg, st, A2, cA, C3, cC, hok, rfl, OZ, OG, hcap, HR4⟩
  have hb4 := HR4.out.2
  have S4 := HR4.out.1
  have X4 := X3.out.btw hb4 (.inr (by omega))
  have Y4 := Y3.out.btw hb4 (.inr (by omega))
  obtain ⟨⟨⟨_, _, e0, O0⟩, ⟨_, _, e1, O1⟩, -⟩, hnd⟩ := HA3.out
  injection e0 with e0 z1 z2
  injection e1 with e1 z3 z4
  subst e0 e1
  clear z1 z2 z3 z4
  obtain ⟨b0, rfl, p1, p2, -⟩ := ownI_blk O0 (by rw [zR_len]; omega)
  obtain ⟨b1, rfl, p3, p4, -⟩ := ownI_blk O1 (by rw [zI_len]; omega)
  have hne : b0 ≠ b1 := by
    rintro rfl
    simp [blkL] at hnd
  have HM4 : Hid (MS w b A n c zs (K + 321) D W3.heap.size b0 b1 c0 c1 A2 cA C3 cC st zz gg (((w4.setCell ⟨D, 2, none⟩ (.slice A2 256 cA)).setCell ⟨D, 3, none⟩ (.slice C3 16 cC)).setCell ⟨D, 4, none⟩ (.int .i64 st))) := Lib.hid (by
    have q : Below w.heap.size w4 (((w4.setCell ⟨D, 2, none⟩ (.slice A2 256 cA)).setCell ⟨D, 3, none⟩ (.slice C3 16 cC)).setCell ⟨D, 4, none⟩ (.int .i64 st)) := (((Below.refl _ _).setCell (p := ⟨D, 2, none⟩) (by show w.heap.size ≤ D; omega) _).setCell (p := ⟨D, 3, none⟩) (by show w.heap.size ≤ D; omega) _).setCell (p := ⟨D, 4, none⟩) (by show w.heap.size ≤ D; omega) _
    have fr : ∀ {lo hi : Nat} {E : Option Addr} {ds : List Int}, OwnI w4 lo hi E ds → OwnI (((w4.setCell ⟨D, 2, none⟩ (.slice A2 256 cA)).setCell ⟨D, 3, none⟩ (.slice C3 16 cC)).setCell ⟨D, 4, none⟩ (.int .i64 st)) lo hi E ds := fun O => ((O.farB X4 (by decide) 2 _).farB (X4.set 2 _) (by decide) 3 _).farB ((X4.set 2 _).set 3 _) (by decide) 4 _
    have sz : (((w4.setCell ⟨D, 2, none⟩ (.slice A2 256 cA)).setCell ⟨D, 3, none⟩ (.slice C3 16 cC)).setCell ⟨D, 4, none⟩ (.int .i64 st)).heap.size = w4.heap.size := by simp [World.setCell]
    refine ⟨btw_below (HB3.out.trans hb4) q (Nat.le_refl _), (S4.below q hlt).mono (by omega), ((Y4.far (p := ⟨D, 2, none⟩) (by show w.heap.size ≠ D; omega) _).far (p := ⟨D, 3, none⟩) (by show w.heap.size ≠ D; omega) _).far (p := ⟨D, 4, none⟩) (by show w.heap.size ≠ D; omega) _, ((X4.set 2 _).set 3 _).set 4 _, ⟨zR, zR_len, zR_all, ?_⟩, ⟨zI, zI_len, zI_all, ?_⟩, ?_, ?_, hne, hlt, by omega, by omega⟩
    · exact (fr (O0.btw hb4 (.inr (by omega)))).wideB (by omega) (by omega)
    · exact (fr (O1.btw hb4 (.inr (by omega)))).wideB (by omega) (by omega)
    · rw [sz]; exact fr OZ.out
    · rw [sz]; exact ((OG.out.far X4 (by decide) 2 _).far (X4.set 2 _) (by decide) 3 _).far ((X4.set 2 _).set 3 _) (by decide) 4 _)
  have k2 := X4.cell 2 rfl
  have k3 := X4.cell 3 rfl
  have k4 := X4.cell 4 rfl
  have k2z := X4.frozen 2
  have k3z := X4.frozen 3
  have k4z := X4.frozen 4
  rw [hD] at k2 k3 k4 k2z k3z k4z
  obtain ⟨G, hG⟩ : ∃ G, G = W3.heap.size := ⟨_, rfl⟩
  rw [← hG] at HM4
  rw [hD] at HM4
  have hDl : w.heap.size + 1 ≤ D := by omega
  clear X4 Y4 O0 O1 hnd p1 p2 p3 p4 HR4 hb4 S4 OZ OG X3 Y3 S3 HB3 HA3 HF3 HW3 hcap hsz3 hG
  go_wp2
  generalize ((w4.setCell ⟨w2.heap.size, 2, none⟩ (.slice A2 256 cA)).setCell ⟨w2.heap.size, 3, none⟩ (.slice C3 16 cC)).setCell ⟨w2.heap.size, 4, none⟩ (.int .i64 st) = w5 at HM4 ⊢
  rw [← hD] at HM4 ⊢
  clear k2 k3 k4 k2z k3z k4z hD hsz2
  go_loopw [4] (fun q wr => ∃ j : Nat, j ≤ 12 ∧ q = .int .i64 j ∧ Hid (MS w b A n c zs (K + 321 + 2 * j) D G b0 b1 c0 c1 A2 cA C3 cC st zz gg wr)) (fun q _ => 12 - (intOf q).toNat)
  case atStart => exact ⟨0, by omega, rfl, HM4⟩
  case round =>
    clear HM4
    obtain ⟨j, hj, rfl, M⟩ := hrel
    have HN256 : Hid (∀ K W, K ≤ 10000 → Hid (MS w b A n c zs K D G b0 b1 c0 c1 A2 cA C3 cC st zz gg W) → Calls Try.prog 81 #[.pointer (some ⟨b, 0, none⟩), .int .i64 256] W fun e w' => ∃ v : Nat, e = .returned (.int .i64 v) ∧ v < 256 ∧ Hid (MS w b A n c zs (K + 1) D G b0 b1 c0 c1 A2 cA C3 cC st zz gg w')) := Lib.hid (fun K W h3 hM => by
      refine (HNx.out 256 K W (by omega) (by omega) h3 hM.out.s).mono ?_
      rintro e w' ⟨v, rfl, hv, S, hb⟩
      exact ⟨v, rfl, hv, Lib.hid (hM.out.next S.out hb)⟩)
    have HN32 : Hid (∀ K W, K ≤ 10000 → Hid (MS w b A n c zs K D G b0 b1 c0 c1 A2 cA C3 cC st zz gg W) → Calls Try.prog 81 #[.pointer (some ⟨b, 0, none⟩), .int .i64 32] W fun e w' => ∃ v : Nat, e = .returned (.int .i64 v) ∧ v < 32 ∧ Hid (MS w b A n c zs (K + 1) D G b0 b1 c0 c1 A2 cA C3 cC st zz gg w')) := Lib.hid (fun K W h3 hM => by
      refine (HNx.out 32 K W (by omega) (by omega) h3 hM.out.s).mono ?_
      rintro e w' ⟨v, rfl, hv, S, hb⟩
      exact ⟨v, rfl, hv, Lib.hid (hM.out.next S.out hb)⟩)
    by_cases hlt' : j < 12
    · have hi : (j : Int) < 12 := by omega
      have M0 := Lib.hid M.out.drew
      clear M
      go_wp2
      go_region_held3 (fun W' => W'.cell? ⟨D, 0, none⟩ = some (.slice (some ⟨b0, 0, none⟩) 256 c0))
        (first | exact (M2.out.ram v u hv hu).x.cell 0 rfl | exact M2.out.x.cell 0 rfl | exact M1.out.x.cell 0 rfl | exact M0.out.x.cell 0 rfl)
        (first
          | (go_at_call 81; refine (HN256.out _ _ (by omega) M1).mono ?_; rintro e w7 ⟨u, rfl, hu, M2⟩; obtain ⟨⟨y, hy⟩, hyz⟩ := M2.out.cR v hv)
          | (go_at_call 81; refine (HN256.out _ _ (by omega) M0).mono ?_; rintro e w6 ⟨v, rfl, hv, M1⟩; have hvi : (v : Int) < 256 := by omega))
      all_goals (
        have M3 := Lib.hid (M2.out.ram v u hv hu)
        clear hy hyz M0 M1
        go_wp2
        go_roundw
        case rel => exact ⟨j + 1, by omega, by go_num, Lib.hid (M3.out.mono (by omega))⟩
        case measure => simp [intOf]; omega)
    · obtain rfl : j = 12 := by omega
      have M0 := Lib.hid M.out.drew
      clear M
      go_wp2
      go_region_held3 (fun W' => W'.cell? ⟨D, 1, none⟩ = some (.slice (some ⟨b1, 0, none⟩) 32 c1))
        (first | exact (M2.out.io v u hv hu).x.cell 1 rfl | exact M2.out.x.cell 1 rfl | exact M1.out.x.cell 1 rfl | exact M0.out.x.cell 1 rfl)
        (first
          | (go_at_call 81; refine (HN256.out _ _ (by omega) M1).mono ?_; rintro e w7 ⟨u, rfl, hu, M2⟩; obtain ⟨⟨y, hy⟩, hyz⟩ := M2.out.cI v hv)
          | (go_at_call 81; refine (HN32.out _ _ (by omega) M0).mono ?_; rintro e w6 ⟨v, rfl, hv, M1⟩; have hvi : (v : Int) < 32 := by omega))
      all_goals (
        have M3 := Lib.hid (M2.out.io v u hv hu)
        clear hy hyz M0 M1 HN256 HN32 HNx M2
        generalize w7.setCell ⟨b1, v, none⟩ (.int .i64 (u : Int)) = w8 at M3 ⊢
        have x0 := M3.out.x.cell 0 rfl
        have x1 := M3.out.x.cell 1 rfl
        have x2 := M3.out.x.cell 2 rfl
        have x3 := M3.out.x.cell 3 rfl
        have x4 := M3.out.x.cell 4 rfl
        obtain ⟨ram, l0, a0, O0⟩ := M3.out.R
        obtain ⟨io, l1, a1, O1⟩ := M3.out.I
        have q5 := okFlash_len hok.out
        have HO := Lib.hid (l05Own (some ⟨b0, 0, none⟩) (some ⟨b1, 0, none⟩) A2 C3 c0 c1 cA cC ram io zz gg st w8 l0 l1 q5.1 q5.2.1 O0.reads O1.reads M3.out.Z.reads M3.out.G.reads)
        have HOk : Hid (okMem ram io zz gg st = true) := Lib.hid (okMem_mk l0 l1 a0 a1 hok.out)
        clear l0 l1 a0 a1 O0 O1 q5 hok
        go_wp2_with fail
        refine HO.out.mono ?_
        rintro e w9 ⟨D0, D1, D2, D3, g0, g1, g2, g3, rfl, HA, hb9⟩
        have Y9 := M3.out.r.step hb9
        have t0 := Y9.cell 0 rfl
        have t1 := Y9.cell 1 rfl
        have t2 := Y9.cell 2 rfl
        have t3 := Y9.cell 3 rfl
        have t4 := Y9.cell 4 rfl
        have t0z := Y9.frozen 0
        have t1z := Y9.frozen 1
        have t2z := Y9.frozen 2
        have t3z := Y9.frozen 3
        have t4z := Y9.frozen 4
        have HY9 := Lib.hid Y9
        have HSz8 : Hid (w.heap.size ≤ w8.heap.size) := Lib.hid M3.out.btw.size
        have HBt : Hid (Btw b (b + 1) w w9) := Lib.hid (btw_below M3.out.btw hb9 M3.out.btw.size)
        clear Y9 HO x0 x1 x2 x3 x4 M3
        go_wp2
        refine bodyPost_ret (v := .agg #[.slice D0 256 g0, .slice D1 32 g1, .slice D2 256 g2, .slice D3 16 g3, .int .i64 st]) (by simp [results, Try.results42, go_sem, t0, t1, t2, t3, t4]) rfl ?_
        have qb : Below w.heap.size w9 (((((w9.setCell ⟨w.heap.size, 0, none⟩ (.slice D0 256 g0)).setCell ⟨w.heap.size, 1, none⟩ (.slice D1 32 g1)).setCell ⟨w.heap.size, 2, none⟩ (.slice D2 256 g2)).setCell ⟨w.heap.size, 3, none⟩ (.slice D3 16 g3)).setCell ⟨w.heap.size, 4, none⟩ (.int .i64 st)) := (((((Below.refl _ _).setCell (p := ⟨w.heap.size, 0, none⟩) (Nat.le_refl _) _).setCell (p := ⟨w.heap.size, 1, none⟩) (Nat.le_refl _) _).setCell (p := ⟨w.heap.size, 2, none⟩) (Nat.le_refl _) _).setCell (p := ⟨w.heap.size, 3, none⟩) (Nat.le_refl _) _).setCell (p := ⟨w.heap.size, 4, none⟩) (Nat.le_refl _) _
        refine ⟨ram, io, zz, gg, st, D0, D1, D2, D3, g0, g1, g2, g3, HOk, rfl, Lib.hid ?_, Lib.hid (btw_below HBt.out qb (Nat.le_refl _))⟩
        exact (HA.out.far5 HY9.out _ _ _ _ _).wide HSz8.out (by rw [size5]; exact Nat.le_refl _))

set_option maxRecDepth 100000 in
set_option maxHeartbeats 4000000 in
theorem memOf (A : Option Addr) (n c : Nat) (zs : List Nat) (w : World) (hn : n ≤ maxLen) (hl : zs.length = n) (h : ByB w w.heap.size A zs) :
    Calls Try.prog 11 #[.slice A n c] w (GivesMemX w (fun w' => Below w.heap.size w w')) := by
  obtain ⟨W0, hW0⟩ : ∃ W0, W0 = w.alloc (.cells #[.slice none 0 0, .slice none 0 0, .slice none 0 0, .slice none 0 0, .int .i64 0] 28) := ⟨_, rfl⟩
  have hb0 : Below w.heap.size w W0 := by rw [hW0]; exact alloc_below _ _
  have HY0 : Hid (Box W0 w.heap.size 28 #[.slice none 0 0, .slice none 0 0, .slice none 0 0, .slice none 0 0, .int .i64 0]) := Lib.hid (by rw [hW0]; exact Box.new _ _ _)
  have HC := Lib.hid (srcNew A n c zs W0 hn hl (h.step hb0))
  have HF := Lib.hid (fun W (h : Src W W0.heap.size A n c zs 0) => srcMem W0.heap.size A n c zs 0 W hn (by omega) h)
  have HW0 := Lib.hid hW0
  clear hn hl h hW0
  go_enter Try.func11, Try.ntmps11
  go_wp2_with fail
  rw [← HW0.out]
  refine HC.out.mono ?_
  rintro e w1 ⟨rfl, S1, hb1⟩
  have HY1 := Lib.hid (HY0.out.step hb1)
  have hsz : w.heap.size + 1 ≤ W0.heap.size := HY0.out.lt
  go_wp2_with fail
  refine (HF.out w1 S1.out).mono ?_
  rintro e w2 ⟨r, i, zr, gr, st, D0, D1, D2, D3, g0, g1, g2, g3, HO, rfl, HA, B2⟩
  have Y2 := Lib.hid (HY1.out.btw B2.out (.inl (by omega)))
  have HB2 := Lib.hid ((hb0.trans (hb1.mono (by omega))).trans ((B2.out.below (hb1.size)).mono (by omega)))
  have hsz1 : W0.heap.size ≤ w1.heap.size := hb1.size
  have t0 := Y2.out.cell 0 rfl
  have t1 := Y2.out.cell 1 rfl
  have t2 := Y2.out.cell 2 rfl
  have t3 := Y2.out.cell 3 rfl
  have t4 := Y2.out.cell 4 rfl
  have t0z := Y2.out.frozen 0
  have t1z := Y2.out.frozen 1
  have t2z := Y2.out.frozen 2
  have t3z := Y2.out.frozen 3
  have t4z := Y2.out.frozen 4
  clear HC HY0 HY1 S1 B2
  go_wp2
  refine bodyPost_ret (v := .agg #[.slice D0 256 g0, .slice D1 32 g1, .slice D2 256 g2, .slice D3 16 g3, .int .i64 st]) (by simp [results, Try.results11, go_sem, t0, t1, t2, t3, t4]) rfl ?_
  exact ⟨r, i, zr, gr, st, D0, D1, D2, D3, g0, g1, g2, g3, HO, rfl, Lib.hid ((HA.out.far5 Y2.out _ _ _ _ _).wide (by omega) (by rw [size5]; exact Nat.le_refl _)), Lib.hid (below5 HB2.out (Nat.le_refl _) _ _ _ _ _)⟩
end Go.Proofs.Ytdanefhfngmipaa

/- What the law on write cycles uses: FlashDrawn, CycleOf, sameFlash; what a cycle does to a block. -/
namespace Go.Proofs.Ytdanefhfngmipaa
open Go.RowKit

set_option maxRecDepth 100000 in
theorem lawSameInts (A A' : Option Addr) (n n' c c' : Nat) (zs : List Int) (w : World) (hl : zs.length = n) (hl' : zs.length = n') (hn : n ≤ maxLen) (h : IntL w A zs) (h' : IntL w A' zs) :
    Calls Try.prog 21 #[.slice A n c, .slice A' n' c'] w fun e w' => e = .returned (.bool true) ∧ Below w.heap.size w w' := by
  unfold maxLen at hn
  have HL := Lib.hid hl
  obtain rfl : n = n' := by omega
  have H := Lib.hid h
  have H' := Lib.hid h'
  clear hl hl' h h'
  have hb : ((n : Int) != (n : Int)) = false := by simp
  go_enter Try.func21, Try.ntmps21
  go_wp2
  go_loopw [5] (fun i wr => ∃ k : Nat, k ≤ n ∧ i = .int .i64 k ∧ Below w.heap.size w wr) (fun i _ => n - (intOf i).toNat)
  case atStart => exact ⟨0, Nat.zero_le _, rfl, Below.refl _ _⟩
  case round =>
    obtain ⟨k, hk, rfl, hbw⟩ := hrel
    by_cases hlt : k < n
    · obtain ⟨b, off, rfl, hc⟩ := (H.out.below hbw) k (by rw [HL.out]; exact hlt)
      obtain ⟨b', off', rfl, hc'⟩ := (H'.out.below hbw) k (by rw [HL.out]; exact hlt)
      generalize zs.getD k 0 = x at hc hc'
      have hi : (k : Int) < (n : Int) := by omega
      have hq1 : (x != x) = false := by simp
      have hq2 : (x == x) = true := by simp
      go_wp2
      go_quiet (fail)
      go_wp2
      go_roundw
      case rel => exact ⟨k + 1, by omega, by go_num, below_drewN hbw _⟩
      case measure => simp [intOf]; omega
    · go_wp2
      go_ret
      exact ⟨rfl, hbw⟩

set_option maxRecDepth 100000 in
set_option maxHeartbeats 2000000 in
theorem lawSameFlash (A A' C C' : Option Addr) (n n' m m' c c' d d' : Nat) (st : Int) (zs : List Int) (gs : List Bool) (w : World) (hl : zs.length = n) (hl' : zs.length = n') (hm : gs.length = m) (hm' : gs.length = m') (hn : n ≤ maxLen) (hmm : m ≤ maxLen) (h : IntL w A zs) (h' : IntL w A' zs) (g : BoolL w C gs) (g' : BoolL w C' gs) :
    Calls Try.prog 20 #[.agg #[.slice A n c, .slice C m d, .int .i64 st], .agg #[.slice A' n' c', .slice C' m' d', .int .i64 st]] w fun e w' => e = .returned (.bool true) ∧ Below w.heap.size w w' := by
  obtain ⟨W0, hW0⟩ : ∃ W0, W0 = ((w.alloc (.cells #[.slice A n c, .slice C m d, .int .i64 st] 26)).alloc (.cells #[.slice A' n' c', .slice C' m' d', .int .i64 st] 26)) := ⟨_, rfl⟩
  have hb0 : Below w.heap.size w W0 := by rw [hW0]; exact bt (alloc_below _ _) (alloc_below _ _)
  have X0 : Box W0 w.heap.size 26 #[.slice A n c, .slice C m d, .int .i64 st] := by rw [hW0]; exact (Box.new _ _ _).alloc _
  have Y0 : Box W0 (w.heap.size + 1) 26 #[.slice A' n' c', .slice C' m' d', .int .i64 st] := by rw [hW0]; simpa using Box.new (w.alloc (.cells #[.slice A n c, .slice C m d, .int .i64 st] 26)) 26 #[.slice A' n' c', .slice C' m' d', .int .i64 st]
  have HS := Lib.hid (lawSameInts A A' n n' c c' zs W0 hl hl' hn (h.below hb0) (h'.below hb0))
  have H := Lib.hid g
  have H' := Lib.hid g'
  have HX := Lib.hid (And.intro X0 Y0)
  have HW0 := Lib.hid hW0
  have HM := Lib.hid hm
  obtain rfl : m = m' := by omega
  unfold maxLen at hmm
  have q1 : (st != st) = false := by simp
  have q2 : ((m : Int) != (m : Int)) = false := by simp
  clear hl hl' hm hm' hn h h' g g' X0 Y0 hW0
  go_enter Try.func20, Try.ntmps20
  go_wp2_with fail
  rw [← HW0.out]
  refine HS.out.mono ?_
  rintro e w1 ⟨rfl, hb1⟩
  have X1 := HX.out.1.step hb1
  have Y1 := HX.out.2.step hb1
  have x1 := X1.cell 1 rfl
  have y1 := Y1.cell 1 rfl
  have HX1 := Lib.hid (And.intro X1 Y1)
  have hb := bt hb0 hb1
  clear X1 Y1 HX HW0 hb0 hb1 HS
  go_wp2
  clear x1 y1
  go_loopw [5] (fun i wr => ∃ k : Nat, k ≤ m ∧ i = .int .i64 k ∧ Below w1.heap.size w1 wr) (fun i _ => m - (intOf i).toNat)
  case atStart => exact ⟨0, Nat.zero_le _, rfl, Below.refl _ _⟩
  case round =>
    obtain ⟨k, hk, rfl, hbw⟩ := hrel
    have x1 := (HX1.out.1.step hbw).cell 1 rfl
    have y1 := (HX1.out.2.step hbw).cell 1 rfl
    by_cases hlt : k < m
    · obtain ⟨b, off, rfl, hc⟩ := (H.out.below (bt hb hbw)) k (by rw [HM.out]; exact hlt)
      obtain ⟨b', off', rfl, hc'⟩ := (H'.out.below (bt hb hbw)) k (by rw [HM.out]; exact hlt)
      generalize gs.getD k false = x at hc hc'
      have hi : (k : Int) < (m : Int) := by omega
      have hq1 : (x != x) = false := by simp
      have hq2 : (x == x) = true := by simp
      go_wp2
      go_quiet (fail)
      go_wp2
      go_roundw
      case rel => exact ⟨k + 1, by omega, by go_num, below_drewN hbw _⟩
      case measure => simp [intOf]; omega
    · go_wp2
      go_ret
      exact ⟨rfl, bt hb hbw⟩

/-- p holds from a on, n times. -/
def pre (p : Nat → Bool) (a : Nat) : Nat → Bool
  | 0 => true
  | n + 1 => pre p a n && p (a + n)
theorem pre_all {p : Nat → Bool} {a n : Nat} (h : ∀ i, i < n → p (a + i) = true) : pre p a n = true := by
  induction n with
  | zero => rfl
  | succ n ih => unfold pre; rw [ih (fun i hi => h i (by omega)), h n (by omega)]; rfl
theorem pre_false {p : Nat → Bool} {a n : Nat} (h : pre p a n = false) : pre p a (n + 1) = false := by unfold pre; rw [h]; rfl
theorem pre_next {p : Nat → Bool} {a n : Nat} (h : pre p a n = true) : pre p a (n + 1) = p (a + n) := by rw [pre, h, Bool.true_and]
def eraP (x : List Int) (i : Nat) : Bool := x.getD i 0 == 255
def felP (x z : List Int) (i : Nat) : Bool := (((x.getD i 0).toNat &&& (z.getD i 0).toNat : Nat) : Int) == x.getD i 0
def samP (x z : List Int) (i : Nat) : Bool := x.getD i 0 == z.getD i 0

theorem fel_same {x z : List Int} {i : Nat} (h : x.getD i 0 = z.getD i 0) (h0 : 0 ≤ x.getD i 0) : felP x z i = true := by
  unfold felP
  rw [← h, Nat.and_self, Int.toNat_of_nonneg h0]
  simp
theorem getD_mem {z : List Int} {i : Nat} (h : i < z.length) : z.getD i 0 ∈ z := by
  rw [List.getD_eq_getElem?_getD, List.getElem?_eq_getElem h]; exact List.getElem_mem _
theorem progL_at (zs : List Int) (gs : List Bool) (k v i : Nat) (hi : i < zs.length) : (progL zs gs k v).getD i 0 = if i = k ∧ gs.getD (k / 16) false = false then (((zs.getD k 0).toNat &&& v : Nat) : Int) else zs.getD i 0 := by
  unfold progL
  by_cases hg : gs.getD (k / 16) false = true
  · rw [if_pos hg, if_neg (by rw [hg]; simp)]
  · rw [if_neg hg]
    by_cases e : i = k
    · subst e
      rw [if_pos ⟨rfl, by simpa using hg⟩, List.getD_eq_getElem?_getD, List.getElem?_set_self hi]
      rfl
    · rw [if_neg (fun q => e q.1), List.getD_eq_getElem?_getD, List.getElem?_set_ne (fun q => e q.symm), ← List.getD_eq_getElem?_getD]
theorem eraseL_at (zs : List Int) (gs : List Bool) (b i : Nat) (hi : i < zs.length) : (eraseL zs gs b).getD i 0 = if (b * 16 ≤ i ∧ i < b * 16 + 16) ∧ gs.getD b false = false then 255 else zs.getD i 0 := by
  unfold eraseL
  by_cases hg : gs.getD b false = true
  · rw [if_pos hg, if_neg (by rw [hg]; simp)]
  · rw [if_neg hg, fillR_at _ _ _ _ hi]
    have hg' : gs.getD b false = false := by simpa using hg
    by_cases q : b * 16 ≤ i ∧ i < b * 16 + 16
    · rw [if_pos q, if_pos ⟨q, hg'⟩]
    · rw [if_neg q, if_neg (fun e => q e.1)]
theorem eraseN_at (zs : List Int) (gs : List Bool) (i : Nat) (hi : i < zs.length) : ∀ n, (eraseN zs gs n).getD i 0 = if i / 16 < n ∧ gs.getD (i / 16) false = false then 255 else zs.getD i 0
  | 0 => by rw [if_neg (by omega)]; rfl
  | n + 1 => by
    rw [eraseN, eraseL_at _ _ _ _ (by rw [eraseN_len]; exact hi), eraseN_at zs gs i hi n]
    by_cases q : n * 16 ≤ i ∧ i < n * 16 + 16
    · have e : i / 16 = n := by omega
      rw [e]
      by_cases g : gs.getD n false = false
      · rw [if_pos ⟨q, g⟩, if_pos ⟨by omega, g⟩]
      · rw [if_neg (fun h => g h.2), if_neg (by omega), if_neg (fun h => g h.2)]
    · rw [if_neg (fun h => q h.1)]
      by_cases g : i / 16 < n ∧ gs.getD (i / 16) false = false
      · rw [if_pos g, if_pos ⟨by omega, g.2⟩]
      · rw [if_neg g, if_neg (fun h => g ⟨by omega, h.2⟩)]

/-- What a cycle does to a cell: it is as it was, or its block is not protected and it fell (by programming), or its whole block is erased. -/
theorem cyc_block (zs : List Int) (gs : List Bool) (st : Int) (k v b : Nat) (hz : zs.length = 256) (hzs : ∀ z ∈ zs, 0 ≤ z ∧ z ≤ 255) (hb : b < 16) :
    (∀ i, i < 16 → felP (cycZ zs gs st k v) zs (b * 16 + i) = true) ∧ (gs.getD b false = true → ∀ i, i < 16 → samP (cycZ zs gs st k v) zs (b * 16 + i) = true) ∨ gs.getD b false = false ∧ ∀ i, i < 16 → eraP (cycZ zs gs st k v) (b * 16 + i) = true := by
  have same : ∀ x : List Int, (∀ i, i < 16 → x.getD (b * 16 + i) 0 = zs.getD (b * 16 + i) 0) → (∀ i, i < 16 → felP x zs (b * 16 + i) = true) ∧ (gs.getD b false = true → ∀ i, i < 16 → samP x zs (b * 16 + i) = true) := fun x hx =>
    ⟨fun i hi => fel_same (hx i hi) (by rw [hx i hi]; exact (hzs _ (getD_mem (by omega))).1), fun _ i hi => by unfold samP; rw [hx i hi]; simp⟩
  unfold cycZ
  split
  · left
    constructor
    · intro i hi
      have hm := hzs _ (getD_mem (show b * 16 + i < zs.length by omega))
      by_cases q : b * 16 + i = k ∧ gs.getD (k / 16) false = false
      · unfold felP
        rw [progL_at _ _ _ _ _ (by omega), if_pos q, ← q.1]
        have : ((((zs.getD (b * 16 + i) 0).toNat &&& v : Nat) : Int).toNat &&& (zs.getD (b * 16 + i) 0).toNat) = (zs.getD (b * 16 + i) 0).toNat &&& v := by
          rw [Int.toNat_natCast, Nat.and_comm, ← Nat.and_assoc, Nat.and_self]
        rw [this]; simp
      · exact fel_same (by rw [progL_at _ _ _ _ _ (by omega), if_neg q]) (by rw [progL_at _ _ _ _ _ (by omega), if_neg q]; exact hm.1)
    · intro hg i hi
      unfold samP
      rw [progL_at _ _ _ _ _ (by omega), if_neg]
      · simp
      · rintro ⟨rfl, q⟩
        rw [show (b * 16 + i) / 16 = b by omega, hg] at q
        cases q
  · split
    · unfold wipeZ
      split
      · split
        · by_cases g : gs.getD b false = false
          · right
            refine ⟨g, fun i hi => ?_⟩
            unfold eraP
            rw [eraseN_at _ _ _ (by omega), if_pos ⟨by omega, by rw [show (b * 16 + i) / 16 = b by omega]; exact g⟩]
            rfl
          · left
            exact same _ (fun i hi => by rw [eraseN_at _ _ _ (by omega), if_neg (fun q => g (by have := q.2; rwa [show (b * 16 + i) / 16 = b by omega] at this))])
        · left; exact same _ (fun _ _ => rfl)
      · split
        · by_cases g : b = k / 16 ∧ gs.getD b false = false
          · right
            refine ⟨g.2, fun i hi => ?_⟩
            unfold eraP
            rw [← g.1, eraseL_at _ _ _ _ (by omega), if_pos ⟨by omega, g.2⟩]
            rfl
          · left
            exact same _ (fun i hi => by rw [eraseL_at _ _ _ _ (by omega), if_neg (fun q => g ⟨by omega, by have := q.2; rwa [show k / 16 = b by omega] at this⟩)])
        · left; exact same _ (fun _ _ => rfl)
    · left; exact same _ (fun _ _ => rfl)
theorem cyc_guard (gs : List Bool) (st : Int) (k b : Nat) (h : gs.getD b false = true) (hb : b < gs.length) : (cycG gs st k).getD b false = true := by
  unfold cycG
  split
  · by_cases e : b = k / 16
    · subst e; rw [List.getD_eq_getElem?_getD, List.getElem?_set_self hb]; rfl
    · rw [List.getD_eq_getElem?_getD, List.getElem?_set_ne (fun q => e q.symm), ← List.getD_eq_getElem?_getD]; exact h
  · exact h
end Go.Proofs.Ytdanefhfngmipaa

/- laws.at, told exactly; laws.sameTexts. -/
namespace Go.Proofs.Ytdanefhfngmipaa
open Go.RowKit

/-- The i-th choice out of N that these bytes make. -/
def atOf (zs : List Nat) (i N : Nat) : Nat := if zs.length = 0 then i * 7 % N else (zs.getD (i % zs.length) 0 * 31 + zs.getD ((i + 1) % zs.length) 0 + i / zs.length) % N
theorem atOf_lt (zs : List Nat) (i N : Nat) (h : 0 < N) : atOf zs i N < N := by unfold atOf; split <;> exact Nat.mod_lt _ h

set_option maxRecDepth 100000 in
set_option maxHeartbeats 4000000 in
theorem lawAtE (i N : Nat) (A : Option Addr) (n c : Nat) (zs : List Nat) (w : World) (hi : i ≤ 1000) (hN : 2 ≤ N) (hN2 : N ≤ 5000) (hn : n ≤ 1048576) (hl : zs.length = n) (h : ByB w w.heap.size A zs) :
    Calls Try.prog 12 #[.slice A n c, .int .i64 (i : Nat), .int .i64 (N : Nat)] w fun e w' => e = .returned (.int .i64 (atOf zs i N : Nat)) ∧ Below w.heap.size w w' := by
  have h1 : ¬ (N : Int) ≤ 1 := by omega
  have h3 : ¬ (N : Int) = 0 := by omega
  have hi0 : (0 : Int) ≤ (i : Int) := by omega
  by_cases h0 : n = 0
  · have h0' : (n : Int) = 0 := by omega
    have HA : Hid (atOf zs i N = i * 7 % N) := Lib.hid (by unfold atOf; rw [if_pos (by omega)])
    have u1 : (0 : Int) ≤ (i : Int) * 7 := by omega
    clear h hl
    go_enter Try.func12, Try.ntmps12
    go_wp2
    have e1 : (i : Int) * 7 % (N : Int) = ((i * 7 % N : Nat) : Int) := by simp
    rw [e1]
    refine bodyPost_ret (v := .int .i64 ((i * 7 % N : Nat) : Int)) (by simp [results, Try.results12, go_sem]) rfl ?_
    exact ⟨by rw [HA.out], Below.refl _ _⟩
  · have h0' : ¬ (n : Int) = 0 := by omega
    have HA : Hid (atOf zs i N = (zs.getD (i % n) 0 * 31 + zs.getD ((i + 1) % n) 0 + i / n) % N) := Lib.hid (by unfold atOf; rw [if_neg (by omega), hl])
    obtain ⟨b, off, rfl, hb, hc, hv⟩ := h (i % n) (by rw [hl]; exact Nat.mod_lt _ (by omega))
    obtain ⟨b', off', eA, _, hc', hv'⟩ := h ((i + 1) % n) (by rw [hl]; exact Nat.mod_lt _ (by omega))
    injection eA with eA; injection eA with e1 e2; subst e1 e2
    generalize zs.getD (i % n) 0 = x at hc hv HA
    generalize zs.getD ((i + 1) % n) 0 = y at hc' hv' HA
    obtain ⟨p, hp⟩ : ∃ p, p = i % n := ⟨_, rfl⟩
    obtain ⟨q, hq⟩ : ∃ q, q = (i + 1) % n := ⟨_, rfl⟩
    obtain ⟨r, hr⟩ : ∃ r, r = i / n := ⟨_, rfl⟩
    rw [← hp] at hc
    rw [← hq] at hc'
    have t1 : (i : Int).tmod (n : Int) = (p : Int) := by rw [Int.tmod_eq_emod_of_nonneg (by omega), hp]; simp
    have t2 : ((i : Int) + 1).tmod (n : Int) = (q : Int) := by rw [Int.tmod_eq_emod_of_nonneg (by omega), hq]; simp
    have t3 : (i : Int).tdiv (n : Int) = (r : Int) := by rw [Int.tdiv_eq_ediv_of_nonneg (by omega), hr]; simp
    have hp1 : (p : Int) < (n : Int) := by have := Nat.mod_lt i (show 0 < n by omega); omega
    have hq1 : (q : Int) < (n : Int) := by have := Nat.mod_lt (i + 1) (show 0 < n by omega); omega
    have hr1 : r ≤ 1000 := by rw [hr]; exact Nat.le_trans (Nat.div_le_self _ _) hi
    rw [← hr] at HA
    clear hp hq hr h hl
    have t1' : (i : Int) % (n : Int) = (p : Int) := by rw [← t1, Int.tmod_eq_emod_of_nonneg (by omega)]
    have t2' : ((i : Int) + 1) % (n : Int) = (q : Int) := by rw [← t2, Int.tmod_eq_emod_of_nonneg (by omega)]
    have t3' : (i : Int) / (n : Int) = (r : Int) := by rw [← t3, Int.tdiv_eq_ediv_of_nonneg (by omega)]
    have u0 : IntKind.i64.wrap ((i : Int) + 1) = (i : Int) + 1 := IntWalk.i64_in _ ⟨by omega, by omega⟩
    have u1 : IntKind.i64.wrap (p : Int) = (p : Int) := IntWalk.i64_in _ ⟨by omega, by omega⟩
    have u2 : IntKind.i64.wrap (q : Int) = (q : Int) := IntWalk.i64_in _ ⟨by omega, by omega⟩
    have u3 : IntKind.i64.wrap (r : Int) = (r : Int) := IntWalk.i64_in _ ⟨by omega, by omega⟩
    have u4 : IntKind.i64.wrap (x : Int) = (x : Int) := IntWalk.i64_in _ ⟨by omega, by omega⟩
    have u5 : IntKind.i64.wrap (y : Int) = (y : Int) := IntWalk.i64_in _ ⟨by omega, by omega⟩
    have u6 : IntKind.i64.wrap ((x : Int) * 31) = (x : Int) * 31 := IntWalk.i64_in _ ⟨by omega, by omega⟩
    have u7 : IntKind.i64.wrap ((x : Int) * 31 + (y : Int)) = (x : Int) * 31 + (y : Int) := IntWalk.i64_in _ ⟨by omega, by omega⟩
    have u8 : IntKind.i64.wrap ((x : Int) * 31 + (y : Int) + (r : Int)) = (x : Int) * 31 + (y : Int) + (r : Int) := IntWalk.i64_in _ ⟨by omega, by omega⟩
    obtain ⟨z, hz⟩ : ∃ z, z = (x * 31 + y + r) % N := ⟨_, rfl⟩
    have HA2 : Hid (atOf zs i N = z) := Lib.hid (by rw [HA.out, hz])
    have hz1 : z < N := by rw [hz]; exact Nat.mod_lt _ (by omega)
    have t4' : ((x : Int) * 31 + (y : Int) + (r : Int)) % (N : Int) = (z : Int) := by rw [hz]; simp
    have t4 : ((x : Int) * 31 + (y : Int) + (r : Int)).tmod (N : Int) = (z : Int) := by rw [Int.tmod_eq_emod_of_nonneg (by omega), t4']
    have u9 : IntKind.i64.wrap (z : Int) = (z : Int) := IntWalk.i64_in _ ⟨by omega, by omega⟩
    clear hz
    go_enter Try.func12, Try.ntmps12
    go_wp2
    go_quiet (fail)
    go_wp2
    refine bodyPost_ret (v := .int .i64 (z : Int)) (by simp [results, Try.results12, go_sem]) rfl ?_
    exact ⟨by rw [HA2.out], below_drewN (Below.refl _ _) _⟩

end Go.Proofs.Ytdanefhfngmipaa

/- Region on both sides. -/
namespace Go.Proofs.Ytdanefhfngmipaa
open Go.RowKit

def regF (a : Int) : Int × Int × Int := if adB a = true then (regR a, regK a, 0) else (0, 0, 4)
set_option maxRecDepth 100000 in
theorem implRegion (a : Int) (w : World) : Calls Try.prog 16 #[.int .i64 a] w fun e w' => e = .returned (.tuple #[.int .i64 (regF a).1, .int .i64 (regF a).2.1, .int .i64 (regF a).2.2]) ∧ Below w.heap.size w w' := by
  by_cases h : adB a = true
  · have HE : Hid (regF a = (regR a, regK a, 0)) := Lib.hid (by unfold regF; rw [if_pos h])
    have HR := Lib.hid (fun W => regionOf a W (adB_range h).1 (adB_range h).2)
    generalize regF a = r at HE
    generalize regR a = r0 at HE HR
    generalize regK a = r1 at HE HR
    go_enter Try.func16, Try.ntmps16
    go_wp2_with (first | (go_at_call 52; refine (isAddress _ _).mono ?_; rintro e w' ⟨rfl, rfl⟩; rw [h]) | (go_at_call 53; refine (HR.out _).mono ?_; rintro e w' ⟨rfl, rfl⟩))
    exact bodyPost_ret (v := .tuple #[.int .i64 r0, .int .i64 r1, .int .i64 0]) (by simp [results, Try.results16, go_sem]) rfl ⟨by rw [HE.out], Below.refl _ _⟩
  · have HE : Hid (regF a = (0, 0, 4)) := Lib.hid (by unfold regF; rw [if_neg h])
    have h' : adB a = false := by simpa using h
    generalize regF a = r at HE
    clear h
    go_enter Try.func16, Try.ntmps16
    go_wp2_with (first | (go_at_call 52; refine (isAddress _ _).mono ?_; rintro e w' ⟨rfl, rfl⟩; rw [h']))
    exact bodyPost_ret (v := .tuple #[.int .i64 0, .int .i64 0, .int .i64 4]) (by simp [results, Try.results16, go_sem]) rfl ⟨by rw [HE.out], Below.refl _ _⟩
set_option maxRecDepth 100000 in
theorem specRegion (a : Int) (w : World) : Calls Try.prog 38 #[.int .i64 a] w fun e w' => e = .returned (.tuple #[.int .i64 (regF a).1, .int .i64 (regF a).2.1, .int .i64 (regF a).2.2]) ∧ Below w.heap.size w w' := by
  by_cases h : adB a = true
  · have HE : Hid (regF a = (regR a, regK a, 0)) := Lib.hid (by unfold regF; rw [if_pos h])
    have HR := Lib.hid (fun W => l05Region a W (adB_range h).1 (adB_range h).2)
    generalize regF a = r at HE
    generalize regR a = r0 at HE HR
    generalize regK a = r1 at HE HR
    go_enter Try.func38, Try.ntmps38
    go_wp2_with (first | (go_at_call 47; refine (l05At _ _).mono ?_; rintro e w' ⟨rfl, rfl⟩; rw [h]) | (go_at_call 75; refine (HR.out _).mono ?_; rintro e w' ⟨rfl, rfl⟩))
    exact bodyPost_ret (v := .tuple #[.int .i64 r0, .int .i64 r1, .int .i64 0]) (by simp [results, Try.results38, go_sem]) rfl ⟨by rw [HE.out], Below.refl _ _⟩
  · have HE : Hid (regF a = (0, 0, 4)) := Lib.hid (by unfold regF; rw [if_neg h])
    have h' : adB a = false := by simpa using h
    generalize regF a = r at HE
    clear h
    go_enter Try.func38, Try.ntmps38
    go_wp2_with (first | (go_at_call 47; refine (l05At _ _).mono ?_; rintro e w' ⟨rfl, rfl⟩; rw [h']))
    exact bodyPost_ret (v := .tuple #[.int .i64 0, .int .i64 0, .int .i64 4]) (by simp [results, Try.results38, go_sem]) rfl ⟨by rw [HE.out], Below.refl _ _⟩
end Go.Proofs.Ytdanefhfngmipaa

/- The law FnBus, walked. -/
namespace Go.Proofs.Ytdanefhfngmipaa
open Go.RowKit

section
variable {r i zs : List Int} {gs : List Bool} {st : Int}
theorem ok_put (h : okMem r i zs gs st = true) (k u : Nat) (hu : u < 256) : okMem (putR r k u) (putI i k u) (putZ zs gs st k u) (putG gs st k) (putS st k u) = true := by
  obtain ⟨h1, h2, h3, h4, h5⟩ := okMem_len h
  refine okMem_mk (by rw [putR_len]; exact h1) (by rw [putI_len]; exact h2) ?_ ?_ ?_
  · unfold putR; split
    · exact all_set h3 _ _ (byB_nat hu)
    · exact h3
  · unfold putI; split
    · exact all_set h4 _ _ (byB_nat hu)
    · exact h4
  · unfold putZ putG putS
    by_cases e : regR (k : Int) = 3
    · rw [if_pos e, if_pos e, if_pos e]
      have hk : 0 ≤ regK (k : Int) := by unfold regK; unfold regR at e; split at e <;> rename_i q <;> simp_all <;> (try split at e) <;> simp_all <;> omega
      have := ok_cycle h5 (regK (k : Int)).toNat u hu
      rw [show ((regK (k : Int)).toNat : Int) = regK (k : Int) from by omega] at this
      exact this
    · rw [if_neg e, if_neg e, if_neg e]; exact h5
theorem get_set (l : List Int) (k : Nat) (x : Int) (h : k < l.length) : (l.set k x).getD k 0 = x := by
  rw [List.getD_eq_getElem?_getD, List.getElem?_set_self h]; rfl
/-- What comes back, and what is left alone. -/
theorem bus_ways (h : okMem r i zs gs st = true) (k u : Nat) (hk : k < 4096) (hu : u < 256) :
    (regR k = 1 ∧ getV (putR r k u) (putI i k u) (putZ zs gs st k u) (putG gs st k) readV (putS st k u) k = u ∧ putZ zs gs st k u = zs ∧ putG gs st k = gs ∧ putS st k u = st) ∨
    (regR k = 2 ∧ k ≠ 256 ∧ getV (putR r k u) (putI i k u) (putZ zs gs st k u) (putG gs st k) readV (putS st k u) k = u) ∨
    (regR k = 2 ∧ k = 256 ∧ putR r k u = r ∧ putI i k u = i ∧ putZ zs gs st k u = zs ∧ putG gs st k = gs ∧ putS st k u = st) ∨
    (regR k = 3 ∧ putR r k u = r ∧ putI i k u = i) ∨
    (regR k = 0 ∧ getV (putR r k u) (putI i k u) (putZ zs gs st k u) (putG gs st k) readV (putS st k u) k = 255 ∧ putR r k u = r ∧ putI i k u = i ∧ putZ zs gs st k u = zs ∧ putG gs st k = gs ∧ putS st k u = st) := by
  obtain ⟨l1, l2, _⟩ := okMem_len h
  rcases reg_ways k hk with ⟨q1, e1, e2⟩ | ⟨q1, q2, e1, e2⟩ | ⟨q1, q2, e1, e2⟩ | ⟨q1, q2, e1, e2⟩
  · left
    refine ⟨e1, ?_, ?_, ?_, ?_⟩
    · unfold getV putR; rw [if_pos e1, if_pos e1, e2]; exact get_set _ _ _ (by rw [l1]; simpa using q1)
    · unfold putZ; rw [if_neg (by rw [e1]; omega)]
    · unfold putG; rw [if_neg (by rw [e1]; omega)]
    · unfold putS; rw [if_neg (by rw [e1]; omega)]
  · by_cases hk2 : k = 256
    · right; right; left
      refine ⟨e1, hk2, ?_, ?_, ?_, ?_, ?_⟩
      · unfold putR; rw [if_neg (by rw [e1]; omega)]
      · unfold putI; rw [if_neg (by rw [e2]; omega)]
      · unfold putZ; rw [if_neg (by rw [e1]; omega)]
      · unfold putG; rw [if_neg (by rw [e1]; omega)]
      · unfold putS; rw [if_neg (by rw [e1]; omega)]
    · right; left
      refine ⟨e1, hk2, ?_⟩
      unfold getV putI; rw [if_neg (by rw [e1]; omega), if_pos e1, if_pos ⟨e1, by rw [e2]; omega⟩, e2]
      exact get_set _ _ _ (by rw [l2]; simp; omega)
  · right; right; right; left
    refine ⟨e1, ?_, ?_⟩
    · unfold putR; rw [if_neg (by rw [e1]; omega)]
    · unfold putI; rw [if_neg (by rw [e1]; omega)]
  · right; right; right; right
    refine ⟨e1, ?_, ?_, ?_, ?_, ?_, ?_⟩
    · unfold getV; rw [if_neg (by rw [e1]; omega), if_neg (by rw [e1]; omega), if_neg (by rw [e1]; omega)]
    · unfold putR; rw [if_neg (by rw [e1]; omega)]
    · unfold putI; rw [if_neg (by rw [e1]; omega)]
    · unfold putZ; rw [if_neg (by rw [e1]; omega)]
    · unfold putG; rw [if_neg (by rw [e1]; omega)]
    · unfold putS; rw [if_neg (by rw [e1]; omega)]
end

/-- A variable that holds a valid memory. -/
structure MV (D : Nat) (A0 A1 A2 A3 : Option Addr) (c0 c1 c2 c3 : Nat) (r i zs : List Int) (gs : List Bool) (st : Int) (W : World) : Prop where
  x : Box W D 28 #[.slice A0 256 c0, .slice A1 32 c1, .slice A2 256 c2, .slice A3 16 c3, .int .i64 st]
  i0 : IntL W A0 r
  i1 : IntL W A1 i
  i2 : IntL W A2 zs
  i3 : BoolL W A3 gs
section
variable {D : Nat} {A0 A1 A2 A3 : Option Addr} {c0 c1 c2 c3 : Nat} {r i zs : List Int} {gs : List Bool} {st : Int} {W W' : World}
theorem MV.step (h : MV D A0 A1 A2 A3 c0 c1 c2 c3 r i zs gs st W) (hb : Below W.heap.size W W') : MV D A0 A1 A2 A3 c0 c1 c2 c3 r i zs gs st W' := ⟨h.x.step hb, h.i0.below hb, h.i1.below hb, h.i2.below hb, h.i3.below hb⟩
theorem MV.new {lo hi : Nat} (h : OwnA W lo hi [.slice A0 256 c0, .slice A1 32 c1, .slice A2 256 c2, .slice A3 16 c3] [.I r, .I i, .I zs, .B gs]) : MV W.heap.size A0 A1 A2 A3 c0 c1 c2 c3 r i zs gs st (W.alloc (.cells #[.slice A0 256 c0, .slice A1 32 c1, .slice A2 256 c2, .slice A3 16 c3, .int .i64 st] 28)) := by
  have hb := alloc_below W (.cells #[.slice A0 256 c0, .slice A1 32 c1, .slice A2 256 c2, .slice A3 16 c3, .int .i64 st] 28)
  have q := h.reads
  exact ⟨Box.new _ _ _, (RepL.int q.1).below hb, (RepL.int q.2.1).below hb, (RepL.int q.2.2.1).below hb, (RepL.bool q.2.2.2.1).below hb⟩

/-- BusPut of a valid memory within bounds. -/
def PutGives (r i zs : List Int) (gs : List Bool) (st : Int) (w : World) (e : Ending) (w' : World) : Prop :=
  ∃ A0 A1 A2 A3 c0 c1 c2 c3, e = .returned (.tuple #[.agg #[.slice A0 256 c0, .slice A1 32 c1, .slice A2 256 c2, .slice A3 16 c3, .int .i64 st], .int .i64 0]) ∧ Hid (OwnA w' w.heap.size w'.heap.size [.slice A0 256 c0, .slice A1 32 c1, .slice A2 256 c2, .slice A3 16 c3] [.I r, .I i, .I zs, .B gs]) ∧ Below w.heap.size w w'
theorem PutGives.of {a v : Int} {w : World} {e : Ending} {w' : World} (hok : okMem r i zs gs st = true) (ha : adB a = true) (hv : byB v = true) (h : GivesMemCode (putF r i zs gs st a v).1 (putF r i zs gs st a v).2.1 (putF r i zs gs st a v).2.2.1 (putF r i zs gs st a v).2.2.2.1 (putF r i zs gs st a v).2.2.2.2.1 (putF r i zs gs st a v).2.2.2.2.2 w e w') : PutGives (putR r a v) (putI i a v) (putZ zs gs st a v) (putG gs st a) (putS st a v) w e w' := by
  rw [putF_ok _ _ _ _ _ _ _ hok ha hv] at h
  obtain ⟨A0, A1, A2, A3, c0, c1, c2, c3, e1, O, hb⟩ := h
  obtain ⟨l1, l2, _, _, l5⟩ := okMem_len hok
  have l6 := okFlash_len l5
  simp only [putR_len, putI_len, putZ_len, putG_len, l1, l2, l6.1, l6.2.1] at e1 O
  exact ⟨A0, A1, A2, A3, c0, c1, c2, c3, e1, O, hb⟩
set_option maxRecDepth 100000 in
theorem busPutI (hok : okMem r i zs gs st = true) (k u : Nat) (hk : k < 4096) (hu : u < 256) (q : MV D A0 A1 A2 A3 c0 c1 c2 c3 r i zs gs st W) :
    Calls Try.prog 13 #[.agg #[.slice A0 256 c0, .slice A1 32 c1, .slice A2 256 c2, .slice A3 16 c3, .int .i64 st], .int .i64 k, .int .i64 u] W (PutGives (putR r k u) (putI i k u) (putZ zs gs st k u) (putG gs st k) (putS st k u) W) := by
  obtain ⟨l1, l2, _, _, l5⟩ := okMem_len hok
  have l6 := okFlash_len l5
  exact (implBusPut A0 A1 A2 A3 256 32 256 16 c0 c1 c2 c3 r i zs gs st W k u l1 l2 l6.1 l6.2.1 (by unfold maxLen; omega) (by unfold maxLen; omega) (by unfold maxLen; omega) (by unfold maxLen; omega) q.i0 q.i1 q.i2 q.i3).mono fun _ _ h => .of hok (adB_of (by omega)) (byB_nat hu) h
set_option maxRecDepth 100000 in
theorem busPutS (hok : okMem r i zs gs st = true) (k u : Nat) (hk : k < 4096) (hu : u < 256) (q : MV D A0 A1 A2 A3 c0 c1 c2 c3 r i zs gs st W) :
    Calls Try.prog 14 #[.agg #[.slice A0 256 c0, .slice A1 32 c1, .slice A2 256 c2, .slice A3 16 c3, .int .i64 st], .int .i64 k, .int .i64 u] W (PutGives (putR r k u) (putI i k u) (putZ zs gs st k u) (putG gs st k) (putS st k u) W) := by
  obtain ⟨l1, l2, _, _, l5⟩ := okMem_len hok
  have l6 := okFlash_len l5
  exact (specBusPut A0 A1 A2 A3 256 32 256 16 c0 c1 c2 c3 r i zs gs st W k u l1 l2 l6.1 l6.2.1 (by unfold maxLen; omega) (by unfold maxLen; omega) (by unfold maxLen; omega) (by unfold maxLen; omega) q.i0 q.i1 q.i2 q.i3).mono fun _ _ h => .of hok (adB_of (by omega)) (byB_nat hu) h
set_option maxRecDepth 100000 in
theorem busGetI (hok : okMem r i zs gs st = true) (k : Nat) (hk : k < 4096) (q : MV D A0 A1 A2 A3 c0 c1 c2 c3 r i zs gs st W) :
    Calls Try.prog 15 #[.agg #[.slice A0 256 c0, .slice A1 32 c1, .slice A2 256 c2, .slice A3 16 c3, .int .i64 st], .int .i64 k] W fun e w' => e = .returned (.tuple #[.int .i64 (getV r i zs gs readV st k), .int .i64 0]) ∧ Below W.heap.size W w' := by
  obtain ⟨l1, l2, _, _, l5⟩ := okMem_len hok
  have l6 := okFlash_len l5
  have := implBusGet A0 A1 A2 A3 256 32 256 16 c0 c1 c2 c3 r i zs gs st W k l1 l2 l6.1 l6.2.1 (by unfold maxLen; omega) (by unfold maxLen; omega) (by unfold maxLen; omega) (by unfold maxLen; omega) q.i0 q.i1 q.i2 q.i3
  rw [show getF r i zs gs st k = (getV r i zs gs readV st k, 0) from by unfold getF codeIf; rw [hok, adB_of (by omega : (0 : Int) ≤ (k : Int) ∧ (k : Int) ≤ 4095)]; rfl] at this
  exact this
set_option maxRecDepth 100000 in
theorem memOkI (hok : okMem r i zs gs st = true) (q : MV D A0 A1 A2 A3 c0 c1 c2 c3 r i zs gs st W) :
    Calls Try.prog 18 #[.agg #[.slice A0 256 c0, .slice A1 32 c1, .slice A2 256 c2, .slice A3 16 c3, .int .i64 st]] W fun e w' => e = .returned (.bool true) ∧ Below W.heap.size W w' := by
  obtain ⟨l1, l2, _, _, l5⟩ := okMem_len hok
  have l6 := okFlash_len l5
  have := implMemOK A0 A1 A2 A3 256 32 256 16 c0 c1 c2 c3 r i zs gs st W l1 l2 l6.1 l6.2.1 (by unfold maxLen; omega) (by unfold maxLen; omega) (by unfold maxLen; omega) (by unfold maxLen; omega) q.i0 q.i1 q.i2
  rwa [hok] at this
set_option maxRecDepth 100000 in
theorem regionI (k : Nat) (hk : k < 4096) (w : World) : Calls Try.prog 16 #[.int .i64 k] w fun e w' => e = .returned (.tuple #[.int .i64 (regR k), .int .i64 (regK k), .int .i64 0]) ∧ Below w.heap.size w w' := by
  have := implRegion (k : Int) w
  rwa [show regF (k : Int) = (regR k, regK k, 0) from by unfold regF; rw [if_pos (adB_of (by omega))]] at this
variable {B0 B1 B2 B3 : Option Addr} {e0 e1 e2 e3 D' : Nat}
set_option maxRecDepth 100000 in
theorem sameMemI (hok : okMem r i zs gs st = true) (q : MV D A0 A1 A2 A3 c0 c1 c2 c3 r i zs gs st W) (p : MV D' B0 B1 B2 B3 e0 e1 e2 e3 r i zs gs st W) :
    Calls Try.prog 19 #[.agg #[.slice A0 256 c0, .slice A1 32 c1, .slice A2 256 c2, .slice A3 16 c3, .int .i64 st], .agg #[.slice B0 256 e0, .slice B1 32 e1, .slice B2 256 e2, .slice B3 16 e3, .int .i64 st]] W fun e w' => e = .returned (.bool true) ∧ Below W.heap.size W w' := by
  obtain ⟨l1, l2, _, _, l5⟩ := okMem_len hok
  have l6 := okFlash_len l5
  have m1 : (256 : Nat) ≤ maxLen := by unfold maxLen; omega
  have m2 : (32 : Nat) ≤ maxLen := by unfold maxLen; omega
  have m3 : (16 : Nat) ≤ maxLen := by unfold maxLen; omega
  have := implSameMem A0 A1 A2 A3 256 32 256 16 c0 c1 c2 c3 r i zs gs st B0 B1 B2 B3 256 32 256 16 e0 e1 e2 e3 r i zs gs st W l1 l2 l6.1 l6.2.1 l1 l2 l6.1 l6.2.1 m1 m2 m1 m3 m1 m2 m1 m3 q.i0 q.i1 q.i2 q.i3 p.i0 p.i1 p.i2 p.i3
  rwa [show sameMm r i zs gs st r i zs gs st = true from by unfold sameMm sameFl; simp] at this

set_option maxRecDepth 100000 in
set_option maxHeartbeats 2000000 in
theorem lawSameMem (hok : okMem r i zs gs st = true) (q : MV D A0 A1 A2 A3 c0 c1 c2 c3 r i zs gs st W) (p : MV D' B0 B1 B2 B3 e0 e1 e2 e3 r i zs gs st W) :
    Calls Try.prog 17 #[.agg #[.slice A0 256 c0, .slice A1 32 c1, .slice A2 256 c2, .slice A3 16 c3, .int .i64 st], .agg #[.slice B0 256 e0, .slice B1 32 e1, .slice B2 256 e2, .slice B3 16 e3, .int .i64 st]] W fun e w' => e = .returned (.bool true) ∧ Below W.heap.size W w' := by
  obtain ⟨l1, l2, _, _, l5⟩ := okMem_len hok
  have l6 := okFlash_len l5
  have m1 : (256 : Nat) ≤ maxLen := by unfold maxLen; omega
  have m2 : (32 : Nat) ≤ maxLen := by unfold maxLen; omega
  have m3 : (16 : Nat) ≤ maxLen := by unfold maxLen; omega
  obtain ⟨W0, hW0⟩ : ∃ W0, W0 = ((W.alloc (.cells #[.slice A0 256 c0, .slice A1 32 c1, .slice A2 256 c2, .slice A3 16 c3, .int .i64 st] 28)).alloc (.cells #[.slice B0 256 e0, .slice B1 32 e1, .slice B2 256 e2, .slice B3 16 e3, .int .i64 st] 28)) := ⟨_, rfl⟩
  have hb0 : Below W.heap.size W W0 := by rw [hW0]; exact bt (alloc_below _ _) (alloc_below _ _)
  have X0 : Hid (Box W0 W.heap.size 28 #[.slice A0 256 c0, .slice A1 32 c1, .slice A2 256 c2, .slice A3 16 c3, .int .i64 st]) := Lib.hid (by rw [hW0]; exact (Box.new _ _ _).alloc _)
  have Y0 : Hid (Box W0 (W.heap.size + 1) 28 #[.slice B0 256 e0, .slice B1 32 e1, .slice B2 256 e2, .slice B3 16 e3, .int .i64 st]) := Lib.hid (by rw [hW0]; simpa using Box.new (W.alloc (.cells #[.slice A0 256 c0, .slice A1 32 c1, .slice A2 256 c2, .slice A3 16 c3, .int .i64 st] 28)) 28 #[.slice B0 256 e0, .slice B1 32 e1, .slice B2 256 e2, .slice B3 16 e3, .int .i64 st])
  have H0 := Lib.hid (fun V (hb : Below W.heap.size W V) => lawSameInts A0 B0 256 256 c0 e0 r V l1 l1 m1 (q.i0.below hb) (p.i0.below hb))
  have H1 := Lib.hid (fun V (hb : Below W.heap.size W V) => lawSameInts A1 B1 32 32 c1 e1 i V l2 l2 m2 (q.i1.below hb) (p.i1.below hb))
  have H2 := Lib.hid (fun V (hb : Below W.heap.size W V) => lawSameFlash A2 B2 A3 B3 256 256 16 16 c2 e2 c3 e3 st zs gs V l6.1 l6.1 l6.2.1 l6.2.1 m1 m3 (q.i2.below hb) (p.i2.below hb) (q.i3.below hb) (p.i3.below hb))
  have HW0 := Lib.hid hW0
  have x0 := X0.out.cell 0 rfl
  have y0 := Y0.out.cell 0 rfl
  rw [HW0.out] at x0 y0
  clear l1 l2 l5 l6 m1 m2 m3 hW0 q p hok
  go_enter Try.func17, Try.ntmps17
  go_wp2_with fail
  rw [← HW0.out]
  refine (H0.out _ hb0).mono ?_
  rintro e w1 ⟨rfl, hb1⟩
  have q1 := bt hb0 hb1
  have X1 := X0.out.step hb1
  have Y1 := Y0.out.step hb1
  have x1 := X1.cell 1 rfl
  have y1 := Y1.cell 1 rfl
  have HX1 := Lib.hid (And.intro X1 Y1)
  clear x0 y0 X1 Y1
  go_wp2_with fail
  refine (H1.out _ q1).mono ?_
  rintro e w2 ⟨rfl, hb2⟩
  have q2 := bt q1 hb2
  have X2 := HX1.out.1.step hb2
  have Y2 := HX1.out.2.step hb2
  have x2 := X2.cell 2 rfl
  have x3 := X2.cell 3 rfl
  have x4 := X2.cell 4 rfl
  have y2 := Y2.cell 2 rfl
  have y3 := Y2.cell 3 rfl
  have y4 := Y2.cell 4 rfl
  clear x1 y1 X2 Y2 HX1
  go_wp2_with fail
  refine (H2.out _ q2).mono ?_
  rintro e w3 ⟨rfl, hb3⟩
  go_wp2
  go_ret
  exact ⟨rfl, bt q2 hb3⟩
end
end Go.Proofs.Ytdanefhfngmipaa

/- The law FnBus, walked: the whole. Written by gen_walkbus.py. -/
namespace Go.Proofs.Ytdanefhfngmipaa
open Go.RowKit

theorem pick4 {W : World} {b a0 a1 a3 j : Nat} (h : Box W b 3 #[.int .i64 (a0 : Int), .int .i64 (256 + (a1 : Int)), .int .i64 (512 + (a0 : Int)), .int .i64 (a3 : Int)]) (h0 : a0 < 256) (h1 : a1 < 32) (h3 : a3 < 4096) (hj : j < 4) : ∃ k : Nat, k < 4096 ∧ W.cell? ⟨b, j, none⟩ = some (.int .i64 (k : Int)) := by
  have q : j = 0 ∨ j = 1 ∨ j = 2 ∨ j = 3 := by omega
  rcases q with rfl | rfl | rfl | rfl
  · exact ⟨a0, by omega, h.cell 0 rfl⟩
  · exact ⟨256 + a1, by omega, by rw [show ((256 + a1 : Nat) : Int) = 256 + (a1 : Int) by omega]; exact h.cell 1 rfl⟩
  · exact ⟨512 + a0, by omega, by rw [show ((512 + a0 : Nat) : Int) = 512 + (a0 : Int) by omega]; exact h.cell 2 rfl⟩
  · exact ⟨a3, by omega, h.cell 3 rfl⟩

set_option maxRecDepth 100000 in
set_option maxHeartbeats 16000000 in
theorem walkBus (A : Option Addr) (n c : Nat) (zs : List Nat) (A' : Option Addr) (n' c' : Nat) (zs' : List Nat) (w : World) (hl : zs.length = n) (hl' : zs'.length = n') (hn : n ≤ maxLen) (hn' : n' ≤ maxLen) (h : ByB w w.heap.size A zs) (h' : ByB w w.heap.size A' zs') :
    Calls Try.prog 3 #[.slice A n c, .slice A' n' c'] w fun e w' => e = .returned (.bool true) ∧ Below w.heap.size w w' := by
  by_cases hle : n ≤ 1048576
  · by_cases hle' : n' ≤ 1048576
    · have i1 : ¬ (1048576 : Int) < (n : Int) := by omega
      have i2 : ¬ (1048576 : Int) < (n' : Int) := by omega
      have HD := Lib.hid (memOf A n c zs w hn hl h)
      have HA0 : Hid (∀ W, Below w.heap.size w W → Calls Try.prog 12 #[.slice A' n' c', .int .i64 0, .int .i64 256] W fun e w' => e = .returned (.int .i64 (atOf zs' 0 256 : Nat)) ∧ Below W.heap.size W w') := Lib.hid (fun W hb => lawAtE 0 256 A' n' c' zs' W (by omega) (by omega) (by omega) hle' hl' (h'.step hb))
      have HA1 : Hid (∀ W, Below w.heap.size w W → Calls Try.prog 12 #[.slice A' n' c', .int .i64 0, .int .i64 32] W fun e w' => e = .returned (.int .i64 (atOf zs' 0 32 : Nat)) ∧ Below W.heap.size W w') := Lib.hid (fun W hb => lawAtE 0 32 A' n' c' zs' W (by omega) (by omega) (by omega) hle' hl' (h'.step hb))
      have HA3 : Hid (∀ W, Below w.heap.size w W → Calls Try.prog 12 #[.slice A' n' c', .int .i64 0, .int .i64 4096] W fun e w' => e = .returned (.int .i64 (atOf zs' 0 4096 : Nat)) ∧ Below W.heap.size W w') := Lib.hid (fun W hb => lawAtE 0 4096 A' n' c' zs' W (by omega) (by omega) (by omega) hle' hl' (h'.step hb))
      have HA4 : Hid (∀ W, Below w.heap.size w W → Calls Try.prog 12 #[.slice A' n' c', .int .i64 1, .int .i64 4] W fun e w' => e = .returned (.int .i64 (atOf zs' 1 4 : Nat)) ∧ Below W.heap.size W w') := Lib.hid (fun W hb => lawAtE 1 4 A' n' c' zs' W (by omega) (by omega) (by omega) hle' hl' (h'.step hb))
      have HA5 : Hid (∀ W, Below w.heap.size w W → Calls Try.prog 12 #[.slice A' n' c', .int .i64 2, .int .i64 256] W fun e w' => e = .returned (.int .i64 (atOf zs' 2 256 : Nat)) ∧ Below W.heap.size W w') := Lib.hid (fun W hb => lawAtE 2 256 A' n' c' zs' W (by omega) (by omega) (by omega) hle' hl' (h'.step hb))
      have ha0 := atOf_lt zs' 0 256 (by omega)
      have ha1 := atOf_lt zs' 0 32 (by omega)
      have ha3 := atOf_lt zs' 0 4096 (by omega)
      have haj := atOf_lt zs' 1 4 (by omega)
      have hu := atOf_lt zs' 2 256 (by omega)
      generalize atOf zs' 0 256 = a0 at HA0 ha0
      generalize atOf zs' 0 32 = a1 at HA1 ha1
      generalize atOf zs' 0 4096 = a3 at HA3 ha3
      generalize atOf zs' 1 4 = aj at HA4 haj
      generalize atOf zs' 2 256 = u at HA5 hu
      have haji : (aj : Int) < 4 := by omega
      clear hl hl' hn hn' h h'
      go_enter Try.func3, Try.ntmps3
      go_wp2_with fail
      refine HD.out.mono ?_
      rintro e w1 ⟨r, i, z, g, st, B0, B1, B2, B3, e0, e1, e2, e3, HO, rfl, HM, HB1⟩
      obtain ⟨w2, hw2⟩ : ∃ w2, w2 = w1.alloc (.cells #[.slice B0 256 e0, .slice B1 32 e1, .slice B2 256 e2, .slice B3 16 e3, .int .i64 st] 28) := ⟨_, rfl⟩
      have M2 : Hid (MV w1.heap.size B0 B1 B2 B3 e0 e1 e2 e3 r i z g st w2) := Lib.hid (by rw [hw2]; exact MV.new HM.out)
      have hb2 : Below w.heap.size w w2 := by rw [hw2]; exact bt HB1.out (alloc_below _ _)
      obtain ⟨D1, hD1⟩ : ∃ D1, D1 = w1.heap.size := ⟨_, rfl⟩
      rw [← hD1] at M2
      have HW2 := Lib.hid hw2
      clear hw2 HM HB1 HD
      go_wp2_with fail
      rw [← HW2.out]
      refine (HA0.out w2 hb2).mono ?_
      rintro e w3 ⟨rfl, k3⟩
      have hb3 := bt hb2 k3
      go_wp2_with fail
      refine (HA1.out w3 hb3).mono ?_
      rintro e w4 ⟨rfl, k4⟩
      have hb4 := bt hb3 k4
      go_wp2_with fail
      refine (HA0.out w4 hb4).mono ?_
      rintro e w5 ⟨rfl, k5⟩
      have hb5 := bt hb4 k5
      go_wp2_with fail
      refine (HA3.out w5 hb5).mono ?_
      rintro e w6 ⟨rfl, k6⟩
      have hb6 := bt hb5 k6
      have k7 := alloc_below w6 (.cells #[.int .i64 (a0 : Int), .int .i64 (256 + (a1 : Int)), .int .i64 (512 + (a0 : Int)), .int .i64 (a3 : Int)] 3)
      have X7 := Lib.hid (Box.new w6 3 #[.int .i64 (a0 : Int), .int .i64 (256 + (a1 : Int)), .int .i64 (512 + (a0 : Int)), .int .i64 (a3 : Int)])
      have HQ4 := Lib.hid (HA4.out _ (bt hb6 k7))
      go_wp2_with fail
      refine HQ4.out.mono ?_
      rintro e w8 ⟨rfl, k8⟩
      have hb8 := bt (bt hb6 k7) k8
      have M8 := Lib.hid ((((((M2.out.step k3).step k4).step k5).step k6).step k7).step k8)
      obtain ⟨k, hk, hc⟩ := pick4 (X7.out.step k8) ha0 ha1 ha3 haj
      clear M2 k3 k4 k5 k6 k7 k8 X7 HQ4 hb2 hb3 hb4 hb5 hb6 HA0 HA1 HA3 HA4 HW2
      go_wp2_with fail
      refine (HA5.out w8 hb8).mono ?_
      rintro e w9 ⟨rfl, k9⟩
      have hb9 := bt hb8 k9
      have M9 := Lib.hid (M8.out.step k9)
      have HPi := Lib.hid (busPutI HO.out k u hk hu M9.out)
      have HPs := Lib.hid (fun W (q : MV D1 B0 B1 B2 B3 e0 e1 e2 e3 r i z g st W) => busPutS HO.out k u hk hu q)
      have HOp := Lib.hid (ok_put HO.out k u hu)
      have HWy := Lib.hid (bus_ways HO.out k u hk hu)
      have HRg := Lib.hid (fun W => regionI k hk W)
      generalize regR (k : Int) = rr at HWy HRg
      generalize regK (k : Int) = rk at HRg
      have HGt := Lib.hid (fun D C0 C1 C2 C3 f0 f1 f2 f3 W (q : MV D C0 C1 C2 C3 f0 f1 f2 f3 (putR r k u) (putI i k u) (putZ z g st k u) (putG g st k) (putS st k u) W) => busGetI HOp.out k hk q)
      generalize getV (putR r k u) (putI i k u) (putZ z g st k u) (putG g st k) readV (putS st k u) k = gt at HGt HWy
      generalize putR r k u = r' at HPi HPs HOp HWy HGt
      generalize putI i k u = i' at HPi HPs HOp HWy HGt
      generalize putZ z g st k u = z' at HPi HPs HOp HWy HGt
      generalize putG g st k = g' at HPi HPs HOp HWy HGt
      generalize putS st k u = st' at HPi HPs HOp HWy HGt
      have m0 := M9.out.x.cell 0 rfl
      have m1 := M9.out.x.cell 1 rfl
      have m2 := M9.out.x.cell 2 rfl
      have m3 := M9.out.x.cell 3 rfl
      have m4 := M9.out.x.cell 4 rfl
      rw [hD1] at m0 m1 m2 m3 m4
      clear hc M8 hb8 k9 HA5
      go_wp2_with fail
      refine HPi.out.mono ?_
      rintro e w10 ⟨C0, C1, C2, C3, f0, f1, f2, f3, rfl, HX, k10⟩
      obtain ⟨w11, hw11⟩ : ∃ w11, w11 = w10.alloc (.cells #[.slice C0 256 f0, .slice C1 32 f1, .slice C2 256 f2, .slice C3 16 f3, .int .i64 st'] 28) := ⟨_, rfl⟩
      have k11 : Below w10.heap.size w10 w11 := by rw [hw11]; exact alloc_below _ _
      have X11 : Hid (MV w10.heap.size C0 C1 C2 C3 f0 f1 f2 f3 r' i' z' g' st' w11) := Lib.hid (by rw [hw11]; exact MV.new HX.out)
      have M11 := Lib.hid ((M9.out.step k10).step k11)
      have hb11 := bt (bt hb9 k10) k11
      obtain ⟨D2, hD2⟩ : ∃ D2, D2 = w10.heap.size := ⟨_, rfl⟩
      rw [← hD2] at X11
      clear m0 m1 m2 m3 m4
      have m0 := M11.out.x.cell 0 rfl
      have m1 := M11.out.x.cell 1 rfl
      have m2 := M11.out.x.cell 2 rfl
      have m3 := M11.out.x.cell 3 rfl
      have m4 := M11.out.x.cell 4 rfl
      rw [hD1, hw11] at m0 m1 m2 m3 m4
      have HW11 := Lib.hid hw11
      have HPx := Lib.hid (HPs.out w11 M11.out)
      clear hw11 HX M9 hb9 k10 k11 HPi HPs
      go_wp2_with fail
      rw [← HW11.out]
      refine HPx.out.mono ?_
      rintro e w12 ⟨E0, E1, E2, E3, h0, h1, h2, h3, rfl, HY, k12⟩
      obtain ⟨w13, hw13⟩ : ∃ w13, w13 = w12.alloc (.cells #[.slice E0 256 h0, .slice E1 32 h1, .slice E2 256 h2, .slice E3 16 h3, .int .i64 st'] 28) := ⟨_, rfl⟩
      have k13 : Below w12.heap.size w12 w13 := by rw [hw13]; exact alloc_below _ _
      have Y13 : Hid (MV w12.heap.size E0 E1 E2 E3 h0 h1 h2 h3 r' i' z' g' st' w13) := Lib.hid (by rw [hw13]; exact MV.new HY.out)
      have M13 := Lib.hid ((M11.out.step k12).step k13)
      have X13 := Lib.hid ((X11.out.step k12).step k13)
      have hb13 := bt (bt hb11 k12) k13
      obtain ⟨D3, hD3⟩ : ∃ D3, D3 = w12.heap.size := ⟨_, rfl⟩
      rw [← hD3] at Y13
      clear m0 m1 m2 m3 m4
      have x0 := X13.out.x.cell 0 rfl
      have x1 := X13.out.x.cell 1 rfl
      have x2 := X13.out.x.cell 2 rfl
      have x3 := X13.out.x.cell 3 rfl
      have x4 := X13.out.x.cell 4 rfl
      rw [hD2, hw13] at x0 x1 x2 x3 x4
      have HW13 := Lib.hid hw13
      have HGx := Lib.hid (HGt.out D2 C0 C1 C2 C3 f0 f1 f2 f3 w13 X13.out)
      clear hw13 HY M11 X11 hb11 k12 k13 HPx HGt HW11
      go_wp2_with fail
      rw [← HW13.out]
      refine HGx.out.mono ?_
      rintro e w14 ⟨rfl, k14⟩
      have hb14 := bt hb13 k14
      go_wp2_with fail
      refine (HRg.out w14).mono ?_
      rintro e w15 ⟨rfl, k15⟩
      have hb15 := bt hb14 k15
      have M15 := Lib.hid ((M13.out.step k14).step k15)
      have X15 := Lib.hid ((X13.out.step k14).step k15)
      have Y15 := Lib.hid ((Y13.out.step k14).step k15)
      clear x0 x1 x2 x3 x4
      have x0 := X15.out.x.cell 0 rfl
      have x1 := X15.out.x.cell 1 rfl
      have x2 := X15.out.x.cell 2 rfl
      have x3 := X15.out.x.cell 3 rfl
      have x4 := X15.out.x.cell 4 rfl
      have y0 := Y15.out.x.cell 0 rfl
      have y1 := Y15.out.x.cell 1 rfl
      have y2 := Y15.out.x.cell 2 rfl
      have y3 := Y15.out.x.cell 3 rfl
      have y4 := Y15.out.x.cell 4 rfl
      rw [hD2] at x0 x1 x2 x3 x4
      rw [hD3] at y0 y1 y2 y3 y4
      have HS1 := Lib.hid (lawSameMem HOp.out X15.out Y15.out)
      clear M13 X13 Y13 k14 k15 hb13 hb14 HGx HRg HW13
      go_wp2_with fail
      refine HS1.out.mono ?_
      rintro e w16 ⟨rfl, k16⟩
      have hb16 := bt hb15 k16
      have X16 := Lib.hid (X15.out.step k16)
      clear x0 x1 x2 x3 x4 y0 y1 y2 y3 y4
      have x0 := X16.out.x.cell 0 rfl
      have x1 := X16.out.x.cell 1 rfl
      have x2 := X16.out.x.cell 2 rfl
      have x3 := X16.out.x.cell 3 rfl
      have x4 := X16.out.x.cell 4 rfl
      rw [hD2] at x0 x1 x2 x3 x4
      have HS2 := Lib.hid (memOkI HOp.out X16.out)
      clear HS1
      go_wp2_with fail
      refine HS2.out.mono ?_
      rintro e w17 ⟨rfl, k17⟩
      have hb17 := bt hb16 k17
      have X17 := Lib.hid (X16.out.step k17)
      have Y17 := Lib.hid ((Y15.out.step k16).step k17)
      have M17 := Lib.hid ((M15.out.step k16).step k17)
      clear x0 x1 x2 x3 x4
      have x0 := X17.out.x.cell 0 rfl
      have x1 := X17.out.x.cell 1 rfl
      have x2 := X17.out.x.cell 2 rfl
      have x3 := X17.out.x.cell 3 rfl
      have x4 := X17.out.x.cell 4 rfl
      have y0 := Y17.out.x.cell 0 rfl
      have y1 := Y17.out.x.cell 1 rfl
      have y2 := Y17.out.x.cell 2 rfl
      have y3 := Y17.out.x.cell 3 rfl
      have y4 := Y17.out.x.cell 4 rfl
      rw [hD2] at x0 x1 x2 x3 x4
      rw [hD3] at y0 y1 y2 y3 y4
      have HS3 := Lib.hid (sameMemI HOp.out X17.out Y17.out)
      clear HS2 X15 X16 Y15 M15 k16 k17 hb15 hb16
      go_wp2_with fail
      refine HS3.out.mono ?_
      rintro e w18 ⟨rfl, k18⟩
      have hb18 := bt hb17 k18
      have X18 := Lib.hid (X17.out.step k18)
      have M18 := Lib.hid (M17.out.step k18)
      clear x0 x1 x2 x3 x4 y0 y1 y2 y3 y4
      have x0 := X18.out.x.cell 0 rfl
      have x1 := X18.out.x.cell 1 rfl
      have x2 := X18.out.x.cell 2 rfl
      have x3 := X18.out.x.cell 3 rfl
      have x4 := X18.out.x.cell 4 rfl
      have m0 := M18.out.x.cell 0 rfl
      have m1 := M18.out.x.cell 1 rfl
      have m2 := M18.out.x.cell 2 rfl
      have m3 := M18.out.x.cell 3 rfl
      have m4 := M18.out.x.cell 4 rfl
      rw [hD2] at x0 x1 x2 x3 x4
      rw [hD1] at m0 m1 m2 m3 m4
      obtain ⟨l1, l2, -, -, l5⟩ := okMem_len HO.out
      have l6 := okFlash_len l5
      have HL := Lib.hid (And.intro l1 (And.intro l2 (And.intro l6.1 l6.2.1)))
      clear HS3 X17 Y17 M17 k18 hb17 l1 l2 l5 l6
      rcases HWy.out with ⟨er, eg, ez, egg, es⟩ | ⟨er, ek, eg⟩ | ⟨er, ek, e1', e2', e3', e4', e5'⟩ | ⟨er, e1', e2'⟩ | ⟨er, eg, e1', e2', e3', e4', e5'⟩
      · subst er eg ez egg es
        have HF := Lib.hid (lawSameFlash C2 B2 C3 B3 256 256 16 16 f2 e2 f3 e3 st' z' g' w18 HL.out.2.2.1 HL.out.2.2.1 HL.out.2.2.2 HL.out.2.2.2 (by unfold maxLen; omega) (by unfold maxLen; omega) X18.out.i2 M18.out.i2 X18.out.i3 M18.out.i3)
        clear HWy
        go_wp2_with fail
        refine HF.out.mono ?_
        rintro e w19 ⟨rfl, k19⟩
        go_wp2
        go_ret
        exact ⟨rfl, bt hb18 k19⟩
      · subst er eg
        have q1 : ((k : Int) == 256) = false := by simp; omega
        have q2 : ((k : Int) != 256) = true := by simp; omega
        clear HWy
        go_wp2
        go_ret
        exact ⟨rfl, hb18⟩
      · subst er ek e1' e2' e3' e4' e5'
        have HF := Lib.hid (lawSameMem HO.out X18.out M18.out)
        clear HWy
        by_cases hg : gt = (u : Int)
        · have q1 : (gt == (u : Int)) = true := by simp [hg]
          have HG := Lib.hid hg
          clear hg
          go_wp2_with fail
          refine HF.out.mono ?_
          rintro e w19 ⟨rfl, k19⟩
          go_wp2
          go_ret
          exact ⟨rfl, bt hb18 k19⟩
        · have q1 : (gt == (u : Int)) = false := by simp [hg]
          have HG := Lib.hid hg
          clear hg
          go_wp2_with fail
          refine HF.out.mono ?_
          rintro e w19 ⟨rfl, k19⟩
          go_wp2
          go_ret
          exact ⟨rfl, bt hb18 k19⟩
      · subst er e1' e2'
        have HF := Lib.hid (lawSameInts C0 B0 256 256 f0 e0 r' w18 HL.out.1 HL.out.1 (by unfold maxLen; omega) X18.out.i0 M18.out.i0)
        clear HWy
        go_wp2_with fail
        refine HF.out.mono ?_
        rintro e w19 ⟨rfl, k19⟩
        have X19 := Lib.hid (X18.out.step k19)
        have M19 := Lib.hid (M18.out.step k19)
        clear x0 x1 x2 x3 x4 m0 m1 m2 m3 m4
        have x1 := X19.out.x.cell 1 rfl
        have m1 := M19.out.x.cell 1 rfl
        rw [hD2] at x1
        rw [hD1] at m1
        have HF2 := Lib.hid (lawSameInts C1 B1 32 32 f1 e1 i' w19 HL.out.2.1 HL.out.2.1 (by unfold maxLen; omega) X19.out.i1 M19.out.i1)
        clear HF
        go_wp2_with fail
        refine HF2.out.mono ?_
        rintro e w20 ⟨rfl, k20⟩
        go_wp2
        go_ret
        exact ⟨rfl, bt (bt hb18 k19) k20⟩
      · subst er eg e1' e2' e3' e4' e5'
        have HF := Lib.hid (lawSameMem HO.out X18.out M18.out)
        clear HWy
        go_wp2_with fail
        refine HF.out.mono ?_
        rintro e w19 ⟨rfl, k19⟩
        go_wp2
        go_ret
        exact ⟨rfl, bt hb18 k19⟩
    · have i1 : ¬ (1048576 : Int) < (n : Int) := by omega
      have i2 : (1048576 : Int) < (n' : Int) := by omega
      clear h h'
      go_enter Try.func3, Try.ntmps3
      go_wp2
      go_ret
      exact ⟨rfl, Below.refl _ _⟩
  · have i1 : (1048576 : Int) < (n : Int) := by omega
    clear h h'
    go_enter Try.func3, Try.ntmps3
    go_wp2
    go_ret
    exact ⟨rfl, Below.refl _ _⟩
end Go.Proofs.Ytdanefhfngmipaa

/- A disk that came in, opened: its two slices as lists. Nothing here walks. -/
namespace Go.Proofs.Ytdanefhfngmipaa
open Go.RowKit Go.ChangeShapes Go.WideShapes

section
variable {H : Type} {enc : TypeId × Value → H} {P : Program} {w : World} {spare : Nat → Bool} {held : Bool}

theorem getD_range {α : Type} (n : Nat) (f : Nat → α) (d : α) (i : Nat) (h : i < n) : ((List.range n).map f).getD i d = f i := by
  simp [List.getD_eq_getElem?_getD, h]

theorem add_plain {a : Addr} {b off i : Nat} {v : Value} (h : w.cell? (a.add i) = some v) (ha : a = ⟨b, off, none⟩) : w.cell? ⟨b, off + i, none⟩ = some v := by
  subst ha
  unfold Addr.add at h
  by_cases hi : i = 0
  · subst hi; simpa using h
  · rw [if_neg hi] at h; exact h

theorem open_strs {t e : TypeId} {fuel : Nat} {v : Value} {x : DataW H × List MemPlace} (ht : P.underlying t = some (.slice e)) (he : P.underlying e = some .string) (hce : P.cellsOf e = 1)
    (h : DataW.trod enc P w 0 spare held fuel t [v] = some x) :
    ∃ A n c, ∃ ss : List ByteArray, v = .slice A n c ∧ ss.length = n ∧ n ≤ maxLen ∧ StrL w A ss ∧ FitS ss := by
  rcases Deep.open_slice1 ht hce h with ⟨hcs, _⟩ | ⟨a, len, cap, m, k, V, D, Pl, hcs, _, hl, hm, hmm, _, hx⟩
  · injection hcs with hv _
    exact ⟨none, 0, 0, [], hv, rfl, by unfold maxLen; omega, fun i hi => by simp at hi, fun s hs => by simp at hs⟩
  · injection hcs with hv _
    have hlm : len ≤ m := by rw [hmm]; split <;> omega
    obtain ⟨S, hS⟩ := Deep.choose_lt (n := len) (p := fun i (s : ByteArray) => w.cell? (a.add i) = some (.string s) ∧ s.size ≤ maxLen) (fun i hi => by
      obtain ⟨h1, h2⟩ := hx i (by omega)
      obtain ⟨s, hc, _, hs⟩ := DataW.trod_string he h2
      injection hc with hc _
      exact ⟨s, by rw [← hc]; exact h1, hs⟩)
    refine ⟨some a, len, cap, (List.range len).map S, hv, by simp, by omega, fun i hi => ?_, fun s hs => ?_⟩
    · have hi' : i < len := by simpa using hi
      have h0 := (hS 0 (by omega)).1
      have hsp := World.cell?_spot h0
      obtain ⟨b, off, spot⟩ := a
      have hsp' : spot = none := by simpa [Addr.add] using hsp
      subst hsp'
      exact ⟨b, off, rfl, by rw [getD_range len S _ i hi']; exact add_plain (hS i hi').1 rfl⟩
    · obtain ⟨i, hi, rfl⟩ := List.mem_map.1 hs
      exact (hS i (by simpa using hi)).2

theorem open_writes {t e : TypeId} {f0 f1 : Field} {fuel : Nat} {v : Value} {x : DataW H × List MemPlace} (ht : P.underlying t = some (.slice e)) (he : P.underlying e = some (.struct #[f0, f1])) (hce : P.cellsOf e = 2)
    (h0 : P.underlying f0.type = some (.int .i64)) (h1 : P.underlying f1.type = some .string) (c0 : P.cellsOf f0.type = 1) (c1 : P.cellsOf f1.type = 1) (o0 : f0.offset = 0) (o1 : f1.offset = 1)
    (h : DataW.trod enc P w 0 spare held fuel t [v] = some x) :
    ∃ A n c, ∃ ws : List (Int × ByteArray), v = .slice A n c ∧ ws.length = n ∧ n ≤ maxLen ∧ WrL w A ws ∧ FitW ws := by
  rcases Deep.open_slice ht h with ⟨hcs, _⟩ | ⟨a, len, cap, m, k, D, Pl, hcs, _, hl, hm, hmm, _, hx⟩
  · injection hcs with hv _
    exact ⟨none, 0, 0, [], hv, rfl, by unfold maxLen; omega, fun i hi => by simp at hi, fun s hs => by simp at hs⟩
  · injection hcs with hv _
    have hlm : len ≤ m := by rw [hmm]; split <;> omega
    rw [hce] at hx
    obtain ⟨S, hS⟩ := Deep.choose_lt (n := len) (p := fun i (s : Int × ByteArray) => w.cell? ((a.add (i * 2)).add 0) = some (.int .i64 s.1) ∧ w.cell? ((a.add (i * 2)).add 1) = some (.string s.2) ∧ s.2.size ≤ maxLen) (fun i hi => by
      obtain ⟨cs, g1, g2⟩ := hx i (by omega)
      obtain ⟨_, hlen, hcell⟩ := World.cells?_some g1
      obtain ⟨y0, y1, q, _, _, g3, g4⟩ := trod_struct2 he g2
      rw [o0, c0] at g3
      rw [o1, c1] at g4
      obtain ⟨u0, u1, rfl⟩ : ∃ u0 u1, cs = [u0, u1] := by
        match cs, hlen with
        | [u0, u1], _ => exact ⟨u0, u1, rfl⟩
      obtain ⟨z, hz, _, _⟩ := DataW.trod_int h0 g3
      obtain ⟨s, hs, _, hsz⟩ := DataW.trod_string h1 g4
      simp at hz hs
      have k0 := hcell 0 (by omega)
      have k1 := hcell 1 (by omega)
      simp at k0 k1
      exact ⟨(z, s), by rw [k0, hz], by rw [k1, hs], hsz⟩)
    refine ⟨some a, len, cap, (List.range len).map S, hv, by simp, by omega, fun i hi => ?_, fun s hs => ?_⟩
    · have hi' : i < len := by simpa using hi
      have h0 := (hS 0 (by omega)).1
      have hsp := World.cell?_spot h0
      obtain ⟨b, off, spot⟩ := a
      have hsp' : spot = none := by simpa [Addr.add] using hsp
      subst hsp'
      refine ⟨b, off, rfl, ?_, ?_⟩
      · rw [getD_range len S _ i hi']
        have := (hS i hi').1
        rw [Deep.add_add] at this
        exact add_plain this rfl
      · rw [getD_range len S _ i hi']
        have := (hS i hi').2.1
        rw [Deep.add_add] at this
        have := add_plain (b := b) (off := off) this rfl
        rwa [← Nat.add_assoc] at this
    · obtain ⟨i, hi, rfl⟩ := List.mem_map.1 hs
      exact (hS i (by simpa using hi)).2.2

theorem open_ints64 {t e : TypeId} {fuel : Nat} {v : Value} {x : DataW H × List MemPlace} (ht : P.underlying t = some (.slice e)) (he : P.underlying e = some (.int .i64)) (hce : P.cellsOf e = 1)
    (h : DataW.trod enc P w 0 spare held fuel t [v] = some x) :
    ∃ A n c, ∃ zs : List Int, v = .slice A n c ∧ zs.length = n ∧ n ≤ maxLen ∧ IntL w A zs ∧ ∀ z ∈ zs, (Lit.int .i64 z).wf = true := by
  rcases Deep.open_slice1 ht hce h with ⟨hcs, _⟩ | ⟨a, len, cap, m, k, V, D, Pl, hcs, _, hl, hm, hmm, _, hx⟩
  · injection hcs with hv _
    exact ⟨none, 0, 0, [], hv, rfl, by unfold maxLen; omega, fun i hi => by simp at hi, fun s hs => by simp at hs⟩
  · injection hcs with hv _
    have hlm : len ≤ m := by rw [hmm]; split <;> omega
    obtain ⟨S, hS⟩ := Deep.choose_lt (n := len) (p := fun i (s : Int) => w.cell? (a.add i) = some (.int .i64 s) ∧ (Lit.int .i64 s).wf = true) (fun i hi => by
      obtain ⟨h1, h2⟩ := hx i (by omega)
      obtain ⟨s, hc, _, hs⟩ := DataW.trod_int he h2
      injection hc with hc _
      exact ⟨s, by rw [← hc]; exact h1, hs⟩)
    refine ⟨some a, len, cap, (List.range len).map S, hv, by simp, by omega, fun i hi => ?_, fun s hs => ?_⟩
    · have hi' : i < len := by simpa using hi
      have h0 := (hS 0 (by omega)).1
      have hsp := World.cell?_spot h0
      obtain ⟨b, off, spot⟩ := a
      have hsp' : spot = none := by simpa [Addr.add] using hsp
      subst hsp'
      exact ⟨b, off, rfl, by rw [getD_range len S _ i hi']; exact add_plain (hS i hi').1 rfl⟩
    · obtain ⟨i, hi, rfl⟩ := List.mem_map.1 hs
      exact (hS i (by simpa using hi)).2
end

set_option maxRecDepth 100000 in
theorem cellsStr : Try.prog.cellsOf 9 = 1 := by kernel_rfl
set_option maxRecDepth 100000 in
theorem cellsInt : Try.prog.cellsOf 3 = 1 := by kernel_rfl
end Go.Proofs.Ytdanefhfngmipaa

/- A []byte that came in, opened: its bytes as numbers below 256, in a block that is there. -/
namespace Go.Proofs.Ytdanefhfngmipaa
open Go.RowKit Go.ChangeShapes Go.WideShapes

theorem open_bytes {H : Type} {enc : TypeId × Value → H} {P : Program} {w : World} {spare : Nat → Bool} {held : Bool} {t e : TypeId} {fuel : Nat} {v : Value} {x : DataW H × List MemPlace} (ht : P.underlying t = some (.slice e)) (he : P.underlying e = some (.int .u8)) (hce : P.cellsOf e = 1)
    (h : DataW.trod enc P w 0 spare held fuel t [v] = some x) :
    ∃ A n c, ∃ zs : List Nat, v = .slice A n c ∧ zs.length = n ∧ n ≤ maxLen ∧ ByB w w.heap.size A zs := by
  rcases Deep.open_slice1 ht hce h with ⟨hcs, _⟩ | ⟨a, len, cap, m, k, V, D, Pl, hcs, _, hl, hm, hmm, _, hx⟩
  · injection hcs with hv _
    exact ⟨none, 0, 0, [], hv, rfl, by unfold maxLen; omega, fun i hi => by simp at hi⟩
  · injection hcs with hv _
    have hlm : len ≤ m := by rw [hmm]; split <;> omega
    obtain ⟨S, hS⟩ := Deep.choose_lt (n := len) (p := fun i (s : Nat) => w.cell? (a.add i) = some (.int .u8 (s : Int)) ∧ s < 256) (fun i hi => by
      obtain ⟨h1, h2⟩ := hx i (by omega)
      obtain ⟨s, hc, _, hs⟩ := DataW.trod_int he h2
      injection hc with hc _
      have hr : 0 ≤ s ∧ s < 256 := by
        have hs' : decide (IntKind.u8.min ≤ s) && decide (s ≤ IntKind.u8.max) := hs
        rw [Bool.and_eq_true, decide_eq_true_eq, decide_eq_true_eq] at hs'
        have e1 : IntKind.u8.min = 0 := by decide
        have e2 : IntKind.u8.max = 255 := by decide
        rw [e1, e2] at hs'
        omega
      exact ⟨s.toNat, by rw [h1, hc, Int.toNat_of_nonneg hr.1], by omega⟩)
    refine ⟨some a, len, cap, (List.range len).map S, hv, by simp, by omega, fun i hi => ?_⟩
    have hi' : i < len := by simpa using hi
    have h0 := (hS 0 (by omega)).1
    have hsp := World.cell?_spot h0
    obtain ⟨b, off, spot⟩ := a
    have hsp' : spot = none := by simpa [Addr.add] using hsp
    subst hsp'
    have hc := add_plain (hS i hi').1 rfl
    refine ⟨b, off, rfl, cell_lt hc, ?_, ?_⟩
    · rw [getD_range len S _ i hi']; exact hc
    · rw [getD_range len S _ i hi']; exact (hS i hi').2
set_option maxRecDepth 100000 in
theorem cellsU8 : Try.prog.cellsOf 5 = 1 := by kernel_rfl
end Go.Proofs.Ytdanefhfngmipaa
