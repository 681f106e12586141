/- The source's coded: a memory with a drawn program. Written by gen_coded.py. -/
import Derived.Test.YtcchhbkbnbphhaaGreatDoorDrawProg
import Derived.Test.YtcchhbkbnbphhaaGreatDoorM4
import Derived.Test.YtcchhbkbnbphhaaGreatDoorNewMemS
import Derived.Test.YtcchhbkbnbphhaaGreatDoorMemOwn
import Derived.Deep.RegionHeld3
namespace Go.Proofs.YtcchhbkbnbphhaaGreatDoor
open Go.RowKit

structure MC (w : World) (b : Nat) (A : Option Addr) (n c : Nat) (zs : List Nat) (K D b0 c0 c1 : Nat) (A1 A2 : Option Addr) (c2 : Nat) (C3 : Option Addr) (c3 : Nat) (io zz : List Int) (gg : List Bool) (W : World) : Prop where
  btw : Btw b (b + 1) w W
  s : Src W b A n c zs K
  r : Box W w.heap.size 31 #[.slice none 0 0, .slice none 0 0, .slice none 0 0, .slice none 0 0, .int .i64 0]
  x : Box W D 31 #[.slice (some ⟨b0, 0, none⟩) 256 c0, .slice A1 32 c1, .slice A2 256 c2, .slice C3 16 c3, .int .i64 0]
  O : ∃ ram : List Int, ram.length = 256 ∧ ram.all byB = true ∧ OwnA W w.heap.size W.heap.size [.slice (some ⟨b0, 0, none⟩) 256 c0, .slice A1 32 c1, .slice A2 256 c2, .slice C3 16 c3] [.I ram, .I io, .I zz, .B gg]
  lt : b < w.heap.size
  dl : w.heap.size + 1 ≤ D
section
variable {w : World} {b : Nat} {A : Option Addr} {n c : Nat} {zs : List Nat} {K D b0 c0 c1 : Nat} {A1 A2 : Option Addr} {c2 : Nat} {C3 : Option Addr} {c3 : Nat} {io zz : List Int} {gg : List Bool} {W W2 : World}
theorem MC.mono {K2 : Nat} (h : MC w b A n c zs K D b0 c0 c1 A1 A2 c2 C3 c3 io zz gg W) (hk : K ≤ K2) : MC w b A n c zs K2 D b0 c0 c1 A1 A2 c2 C3 c3 io zz gg W := ⟨h.btw, h.s.mono hk, h.r, h.x, h.O, h.lt, h.dl⟩
theorem MC.next {K2 : Nat} (h : MC w b A n c zs K D b0 c0 c1 A1 A2 c2 C3 c3 io zz gg W) (S : Src W2 b A n c zs K2) (hb : Btw b (b + 1) W W2) : MC w b A n c zs K2 D b0 c0 c1 A1 A2 c2 C3 c3 io zz gg W2 := by
  have hl := h.lt
  have hd := h.dl
  refine ⟨h.btw.trans hb, S, h.r.btw hb (.inr (by omega)), h.x.btw hb (.inr (by omega)), ?_, h.lt, h.dl⟩
  obtain ⟨ram, h1, h2, h3⟩ := h.O
  exact ⟨ram, h1, h2, (h3.btw hb (.inr (by omega))).wide (Nat.le_refl _) hb.size⟩
theorem MC.drew (h : MC w b A n c zs K D b0 c0 c1 A1 A2 c2 C3 c3 io zz gg W) : MC w b A n c zs K D b0 c0 c1 A1 A2 c2 C3 c3 io zz gg W.drew := by
  obtain ⟨ram, h1, h2, h3⟩ := h.O
  exact ⟨h.btw.drew, h.s.drew, h.r, h.x, ⟨ram, h1, h2, h3.below (Below.refl _ _).drew⟩, h.lt, h.dl⟩
theorem all_setC {l : List Int} {p : Int → Bool} (h : l.all p = true) (k : Nat) (x : Int) (hx : p x = true) : (l.set k x).all p = true := by
  rw [List.all_eq_true] at h ⊢
  intro y hy
  rcases List.mem_or_eq_of_mem_set hy with q | rfl
  · exact h y q
  · exact hx
theorem MC.ram (h : MC w b A n c zs K D b0 c0 c1 A1 A2 c2 C3 c3 io zz gg W) (v u : Nat) (hv : v < 256) (hu : u < 256) : MC w b A n c zs K D b0 c0 c1 A1 A2 c2 C3 c3 io zz gg (W.setCell ⟨b0, v, none⟩ (.int .i64 (u : Int))) := by
  obtain ⟨ram, l0, a0, O⟩ := h.O
  obtain ⟨⟨_, _, e, O0⟩, _, _⟩ := O.uncons
  injection e with e _ _
  subst e
  obtain ⟨b', m, f, e, hc, hf, h1, h2, hr, hput⟩ := O0.put v (by omega)
  have eb : b0 = b' := by injection e with e; injection e
  subst eb
  have hb : Btw b0 (b0 + 1) W (W.setCell ⟨b0, v, none⟩ (.int .i64 (u : Int))) := (Btw.refl _ _ _).setCell (p := ⟨b0, v, none⟩) (Nat.le_refl _) (Nat.lt_succ_self _) _
  have q : Below w.heap.size W (W.setCell ⟨b0, v, none⟩ (.int .i64 (u : Int))) := (Below.refl _ _).setCell (p := ⟨b0, v, none⟩) h1 _
  have k0 : OwnA (W.setCell ⟨b0, v, none⟩ (.int .i64 (u : Int))) w.heap.size W.heap.size [.slice (some ⟨b0, 0, none⟩) 256 c0] [.I (ram.set v (u : Int))] := OwnA.one ⟨some ⟨b0, 0, none⟩, c0, by rw [List.length_set, l0], hput u⟩
  have O2 := OwnA.reseg (a := []) (m := [.slice (some ⟨b0, 0, none⟩) 256 c0]) (b := [.slice A1 32 c1, .slice A2 256 c2, .slice C3 16 c3]) (da := []) (dm := [.I ram]) (dm' := [.I (ram.set v (u : Int))]) (db := [.I io, .I zz, .B gg]) O rfl rfl k0 (touch_blk (by decide) hb)
  exact ⟨btw_below h.btw q (Nat.le_refl _), h.s.below q h.lt, h.r.other hr (by decide) _ _, h.x.other hr (by decide) _ _, ⟨_, by rw [List.length_set]; exact l0, all_setC a0 v _ (by unfold byB; simp; omega), O2.wide (Nat.le_refl _) (by simp [World.setCell])⟩, h.lt, h.dl⟩
theorem MC.cR (h : MC w b A n c zs K D b0 c0 c1 A1 A2 c2 C3 c3 io zz gg W) (v : Nat) (hv : v < 256) : (∃ y, W.cell? ⟨b0, v, none⟩ = some y) ∧ W.frozen? ⟨b0, v, none⟩ = false := by
  obtain ⟨ram, l0, a0, O⟩ := h.O
  obtain ⟨⟨_, _, e, O0⟩, _, _⟩ := O.uncons
  injection e with e _ _
  subst e
  obtain ⟨b', m, f, e, hc, hf, _⟩ := O0.put v (by omega)
  have eb : b0 = b' := by injection e with e; injection e
  subst eb
  exact ⟨⟨_, hc⟩, hf⟩
end
theorem progZ_bytes {ps : List Int} (h : ∀ z ∈ ps, 0 ≤ z ∧ z ≤ 255) : ∀ z ∈ progZ ps ps.length, 0 ≤ z ∧ z ≤ 255 := fun z hz => by
  unfold progZ at hz
  obtain ⟨i, _, rfl⟩ := List.mem_map.1 hz
  split
  · rename_i hi
    rw [List.getD_eq_getElem?_getD, List.getElem?_eq_getElem hi]
    exact h _ (List.getElem_mem _)
  · omega
theorem okCoded {ram ps : List Int} (l0 : ram.length = 256) (a0 : ram.all byB = true) (h : ∀ z ∈ ps, 0 ≤ z ∧ z ≤ 255) : okMem ram zI (progZ ps ps.length) zG 0 = true := by
  refine okMem_mk l0 (by simp [zI]) a0 (by unfold zI; rw [List.all_replicate]; rfl) ?_
  exact okFlash_mk (progZ_len _ _) (by simp [zG]) (by omega) (progZ_bytes h)
def GivesCoded (w : World) (R : World → Prop) (e : Ending) (w' : World) : Prop :=
  ∃ r i zs gs A0 A1 A2 A3 c0 c1 c2 c3, Hid (okMem r i zs gs 0 = true) ∧ e = .returned (.agg #[.slice A0 256 c0, .slice A1 32 c1, .slice A2 256 c2, .slice A3 16 c3, .int .i64 0]) ∧ Hid (OwnA w' w.heap.size w'.heap.size [.slice A0 256 c0, .slice A1 32 c1, .slice A2 256 c2, .slice A3 16 c3] [.I r, .I i, .I zs, .B gs]) ∧ Hid (R w')

set_option maxRecDepth 100000 in
set_option maxHeartbeats 16000000 in
theorem srcCoded (b : Nat) (A : Option Addr) (n c : Nat) (zs : List Nat) (K : Nat) (w : World) (hn : n ≤ maxLen) (hK : K ≤ 100) (h : Src w b A n c zs K) :
    Calls Tryz.prog 19 #[.pointer (some ⟨b, 0, none⟩)] w (GivesCoded w (fun w' => Src w' b A n c zs (K + 300) ∧ Btw b (b + 1) w w')) := by
  have hlt : b < w.heap.size := h.lt
  obtain ⟨W0, hW0⟩ : ∃ W0, W0 = w.alloc (.cells #[.slice none 0 0, .slice none 0 0, .slice none 0 0, .slice none 0 0, .int .i64 0] 31) := ⟨_, rfl⟩
  have hb0 : Below w.heap.size w W0 := by rw [hW0]; exact alloc_below _ _
  have Y0 : Hid (Box W0 w.heap.size 31 #[.slice none 0 0, .slice none 0 0, .slice none 0 0, .slice none 0 0, .int .i64 0]) := Lib.hid (by rw [hW0]; exact Box.new _ _ _)
  have HP := Lib.hid (srcProgram b A n c zs K W0 hn (by omega) (h.below hb0 hlt))
  have HNx := Lib.hid (fun N K W (h1 : 2 ≤ N) (h2 : N ≤ 256) (h3 : K ≤ 10000) (h : Src W b A n c zs K) => srcNext N b A n c zs K W h1 h2 (by omega) h)
  have HW0 := Lib.hid hW0
  have hs0 : W0.heap.size = w.heap.size + 1 := by rw [hW0]; simp
  clear h hW0 hn
  go_enter Tryz.func19, Tryz.ntmps19
  go_wp2_with fail
  rw [← HW0.out]
  refine HP.out.mono ?_
  rintro e w1 ⟨ps, Ap, cp, hps, rfl, OP, HR1⟩
  have hb1 := HR1.out.2
  have HN := Lib.hid (l05New Ap ps.length cp ps w1 rfl hps.out.1 OP.out.reads)
  have S1 := Lib.hid HR1.out.1
  have Y1 := Lib.hid (Y0.out.btw hb1 (.inr (by omega)))
  have HB1 : Hid (Btw b (b + 1) w w1) := Lib.hid ((Btw.of_below hb0 b (b + 1)).trans hb1)
  have hsz1 : w.heap.size + 1 ≤ w1.heap.size := by have := hb1.size; omega
  clear HP OP HR1 Y0 hb0 hb1 HW0
  go_wp2_with fail
  refine HN.out.mono ?_
  rintro e w2 ⟨B0, B1, B2, B3, c0, c1, c2, c3, rfl, HA, hb2⟩
  obtain ⟨⟨⟨_, _, e0, O0⟩, -⟩, -⟩ := HA.out
  injection e0 with e0 z1 z2
  subst e0
  clear z1 z2
  obtain ⟨b0, rfl, -⟩ := ownI_blk O0 (by rw [zR_len]; omega)
  obtain ⟨D, hD⟩ : ∃ D, D = w2.heap.size := ⟨_, rfl⟩
  obtain ⟨W3, hW3⟩ : ∃ W3, W3 = w2.alloc (.cells #[.slice (some ⟨b0, 0, none⟩) 256 c0, .slice B1 32 c1, .slice B2 256 c2, .slice B3 16 c3, .int .i64 0] 31) := ⟨_, rfl⟩
  have hb3 : Below w2.heap.size w2 W3 := by rw [hW3]; exact alloc_below _ _
  have HM3 : Hid (MC w b A n c zs (K + 200) D b0 c0 c1 B1 B2 c2 B3 c3 zI (progZ ps ps.length) zG W3) := Lib.hid ⟨btw_below (btw_below HB1.out hb2 (by omega)) hb3 (by have := hb2.size; omega), (S1.out.below hb2 (by omega)).below hb3 (by have := hb2.size; omega), (Y1.out.step hb2).step hb3, by rw [hW3, hD]; exact Box.new _ _ _, ⟨zR, zR_len, by unfold zR; rw [List.all_replicate]; rfl, (HA.out.below hb3).wide (by omega) hb3.size⟩, hlt, by have := hb2.size; omega⟩
  have HW3 := Lib.hid hW3
  have HBy := Lib.hid hps.out.2
  clear HN HA O0 hW3 hb2 hb3 Y1 S1 HB1 hps
  go_wp2
  rw [← HW3.out, ← hD]
  clear HW3 hD
  go_loopw [4] (fun q wr => ∃ j : Nat, j ≤ 12 ∧ q = .int .i64 j ∧ Hid (MC w b A n c zs (K + 200 + 2 * j) D b0 c0 c1 B1 B2 c2 B3 c3 zI (progZ ps ps.length) zG wr)) (fun q _ => 12 - (intOf q).toNat)
  case atStart => exact ⟨0, by omega, rfl, HM3⟩
  case round =>
    clear HM3
    obtain ⟨j, hj, rfl, M⟩ := hrel
    have HN256 : Hid (∀ K W, K ≤ 10000 → Hid (MC w b A n c zs K D b0 c0 c1 B1 B2 c2 B3 c3 zI (progZ ps ps.length) zG W) → Calls Tryz.prog 41 #[.pointer (some ⟨b, 0, none⟩), .int .i64 256] W fun e w' => ∃ v : Nat, e = .returned (.int .i64 v) ∧ v < 256 ∧ Hid (MC w b A n c zs (K + 1) D b0 c0 c1 B1 B2 c2 B3 c3 zI (progZ ps ps.length) zG w')) := Lib.hid (fun K W h3 hM => by
      refine (HNx.out 256 K W (by omega) (by omega) h3 hM.out.s).mono ?_
      rintro e w' ⟨v, rfl, hv, S, hb⟩
      exact ⟨v, rfl, hv, Lib.hid (hM.out.next S.out hb)⟩)
    by_cases hlt' : j < 12
    · have hi : (j : Int) < 12 := by omega
      have M0 := Lib.hid M.out.drew
      clear M
      go_wp2
      go_region_held3 (fun W' => W'.cell? ⟨D, 0, none⟩ = some (.slice (some ⟨b0, 0, none⟩) 256 c0))
        (first | exact (M2.out.ram v u hv hu).x.cell 0 rfl | exact M2.out.x.cell 0 rfl | exact M1.out.x.cell 0 rfl | exact M0.out.x.cell 0 rfl)
        (first
          | (go_at_call 41; refine (HN256.out _ _ (by omega) M1).mono ?_; rintro e w7 ⟨u, rfl, hu, M2⟩; obtain ⟨⟨y, hy⟩, hyz⟩ := M2.out.cR v hv)
          | (go_at_call 41; refine (HN256.out _ _ (by omega) M0).mono ?_; rintro e w6 ⟨v, rfl, hv, M1⟩; have hvi : (v : Int) < 256 := by omega))
      all_goals (
        have M3 := Lib.hid (M2.out.ram v u hv hu)
        clear hy hyz M0 M1
        go_wp2
        go_roundw
        case rel => exact ⟨j + 1, by omega, by go_num, Lib.hid (M3.out.mono (by omega))⟩
        case measure => simp [intOf]; omega)
    · obtain rfl : j = 12 := by omega
      have hx0 := M.out.x.cell 0 rfl
      have hx1 := M.out.x.cell 1 rfl
      have hx2 := M.out.x.cell 2 rfl
      have hx3 := M.out.x.cell 3 rfl
      have hx4 := M.out.x.cell 4 rfl
      have r0 := M.out.r.cell 0 rfl
      have r1 := M.out.r.cell 1 rfl
      have r2 := M.out.r.cell 2 rfl
      have r3 := M.out.r.cell 3 rfl
      have r4 := M.out.r.cell 4 rfl
      have z0 := M.out.r.frozen 0
      have z1 := M.out.r.frozen 1
      have z2 := M.out.r.frozen 2
      have z3 := M.out.r.frozen 3
      have z4 := M.out.r.frozen 4
      go_wp2
      refine bodyPost_ret (v := .agg #[.slice (some ⟨b0, 0, none⟩) 256 c0, .slice B1 32 c1, .slice B2 256 c2, .slice B3 16 c3, .int .i64 0]) (by simp [results, Tryz.results19, go_sem, r0, r1, r2, r3, r4]) rfl ?_
      obtain ⟨ram, l0, a0, O⟩ := M.out.O
      have hbw : Btw w.heap.size (w.heap.size + 1) wr (((((wr.setCell ⟨w.heap.size, 0, none⟩ (.slice (some ⟨b0, 0, none⟩) 256 c0)).setCell ⟨w.heap.size, 1, none⟩ (.slice B1 32 c1)).setCell ⟨w.heap.size, 2, none⟩ (.slice B2 256 c2)).setCell ⟨w.heap.size, 3, none⟩ (.slice B3 16 c3)).setCell ⟨w.heap.size, 4, none⟩ (.int .i64 0)) := (((((Btw.refl _ _ _).setCell (p := ⟨w.heap.size, 0, none⟩) (Nat.le_refl _) (Nat.lt_succ_self _) _).setCell (p := ⟨w.heap.size, 1, none⟩) (Nat.le_refl _) (Nat.lt_succ_self _) _).setCell (p := ⟨w.heap.size, 2, none⟩) (Nat.le_refl _) (Nat.lt_succ_self _) _).setCell (p := ⟨w.heap.size, 3, none⟩) (Nat.le_refl _) (Nat.lt_succ_self _) _).setCell (p := ⟨w.heap.size, 4, none⟩) (Nat.le_refl _) (Nat.lt_succ_self _) _
      have hq : Below w.heap.size wr (((((wr.setCell ⟨w.heap.size, 0, none⟩ (.slice (some ⟨b0, 0, none⟩) 256 c0)).setCell ⟨w.heap.size, 1, none⟩ (.slice B1 32 c1)).setCell ⟨w.heap.size, 2, none⟩ (.slice B2 256 c2)).setCell ⟨w.heap.size, 3, none⟩ (.slice B3 16 c3)).setCell ⟨w.heap.size, 4, none⟩ (.int .i64 0)) := hbw.below (Nat.le_of_lt M.out.r.lt)
      exact ⟨ram, zI, progZ ps ps.length, zG, _, _, _, _, _, _, _, _, Lib.hid (okCoded l0 a0 HBy.out), rfl, Lib.hid (O.far5 M.out.r _ _ _ _ _ |>.wide (Nat.le_refl _) hbw.size), Lib.hid ⟨(M.out.s.below hq hlt).mono (by omega), btw_below M.out.btw hq (Nat.le_refl _)⟩⟩
set_option maxRecDepth 100000 in
theorem codedMem (A : Option Addr) (n c : Nat) (zs : List Nat) (w : World) (hn : n ≤ maxLen) (hl : zs.length = n) (h : ByB w w.heap.size A zs) :
    Calls Tryz.prog 6 #[.slice A n c] w (GivesCoded w (fun w' => Below w.heap.size w w')) := by
  obtain ⟨W0, hW0⟩ : ∃ W0, W0 = w.alloc (.cells #[.slice none 0 0, .slice none 0 0, .slice none 0 0, .slice none 0 0, .int .i64 0] 31) := ⟨_, rfl⟩
  have hb0 : Below w.heap.size w W0 := by rw [hW0]; exact alloc_below _ _
  have HY0 : Hid (Box W0 w.heap.size 31 #[.slice none 0 0, .slice none 0 0, .slice none 0 0, .slice none 0 0, .int .i64 0]) := Lib.hid (by rw [hW0]; exact Box.new _ _ _)
  have HC := Lib.hid (srcNew A n c zs W0 hn hl (h.step hb0))
  have HF := Lib.hid (fun W (h : Src W W0.heap.size A n c zs 0) => srcCoded W0.heap.size A n c zs 0 W hn (by omega) h)
  have HW0 := Lib.hid hW0
  clear hn hl h hW0
  go_enter Tryz.func6, Tryz.ntmps6
  go_wp2_with fail
  rw [← HW0.out]
  refine HC.out.mono ?_
  rintro e w1 ⟨rfl, S1, hb1⟩
  have HY1 := Lib.hid (HY0.out.step hb1)
  have hsz : w.heap.size + 1 ≤ W0.heap.size := HY0.out.lt
  go_wp2_with fail
  refine (HF.out w1 S1.out).mono ?_
  rintro e w2 ⟨r, i, zr, gr, D0, D1, D2, D3, g0, g1, g2, g3, HO, rfl, HA, B2⟩
  have Y2 := Lib.hid (HY1.out.btw B2.out.2 (.inl (by omega)))
  have HB2 := Lib.hid ((hb0.trans (hb1.mono (by omega))).trans ((B2.out.2.below (hb1.size)).mono (by omega)))
  have hsz1 : W0.heap.size ≤ w1.heap.size := hb1.size
  have t0 := Y2.out.cell 0 rfl
  have t1 := Y2.out.cell 1 rfl
  have t2 := Y2.out.cell 2 rfl
  have t3 := Y2.out.cell 3 rfl
  have t4 := Y2.out.cell 4 rfl
  have t0z := Y2.out.frozen 0
  have t1z := Y2.out.frozen 1
  have t2z := Y2.out.frozen 2
  have t3z := Y2.out.frozen 3
  have t4z := Y2.out.frozen 4
  clear HC HY0 HY1 S1 B2
  go_wp2
  refine bodyPost_ret (v := .agg #[.slice D0 256 g0, .slice D1 32 g1, .slice D2 256 g2, .slice D3 16 g3, .int .i64 0]) (by simp [results, Tryz.results6, go_sem, t0, t1, t2, t3, t4]) rfl ?_
  exact ⟨r, i, zr, gr, D0, D1, D2, D3, g0, g1, g2, g3, HO, rfl, Lib.hid ((HA.out.far5 Y2.out _ _ _ _ _).wide (by omega) (by rw [size5]; exact Nat.le_refl _)), Lib.hid (below5 HB2.out (Nat.le_refl _) _ _ _ _ _)⟩
end Go.Proofs.YtcchhbkbnbphhaaGreatDoor
