/- The source's timers: a drawn valid list; spec.TimersDrawn. Written by gen_drawtim.py. -/
import Derived.Test.YtagdclbpgkilgaaTimApi
import Derived.Test.YtagdclbpgkilgaaDraw
import Derived.Test.YtagdclbpgkilgaaSrcMore
namespace Go.Proofs.Ytagdclbpgkilgaa
open Go.RowKit

theorem But.of_btw {b : Nat} {A B : World} (h : Btw b (b + 1) A B) : But (fun k => k = b) A B := ⟨h.os, h.tape, h.output, h.size, fun k hk hp => h.block k hk (by omega)⟩
theorem Btw.new {lo hi : Nat} {w W : World} (h : Btw lo hi w W) {q : Addr} (hq : w.heap.size ≤ q.block) (v : Value) : Btw lo hi w (W.setCell q v) :=
  ⟨h.os, h.tape, h.output, Nat.le_trans h.size (But.setCell (p := fun _ => True) W (a := q) trivial v).size, fun k hk ho => (Below.heap_setCell W q v k (by omega)).trans (h.block k hk ho)⟩
theorem Src.new {W : World} {b : Nat} {A : Option Addr} {n c : Nat} {zs : List Nat} {K m : Nat} (h : Src W b A n c zs K) (hb : b < m) {q : Addr} (hq : m ≤ q.block) (v : Value) : Src (W.setCell q v) b A n c zs K :=
  h.below (B := m) ((Below.refl m W).setCell hq v) hb
theorem timB_set {rs : List TTimer} {k : Nat} {c l : Int} {h : Bool} (hr : timB rs = true) (hk : k < 4) (hl : 0 ≤ l ∧ l ≤ 256) (hc : 0 ≤ c ∧ c ≤ max (l - 1) 0) (h0 : k = 0 → h = false) : timB (rs.set k (c, l, h)) = true := by
  have hlen := timB_len hr
  rw [timB_all (fun i hi => ?_), List.length_set, hlen]; rfl
  rw [List.length_set, hlen] at hi
  by_cases e : i = k
  · subst e
    have e1 : (rs.set i (c, l, h)).getD i zTimer = (c, l, h) := by rw [List.getD_eq_getElem?_getD, List.getElem?_set_self (by omega)]; rfl
    have e2 : tmB (c, l, h) = true := by unfold tmB limB cntB; simp only [Bool.and_eq_true, decide_eq_true_eq]; exact ⟨hl, hc⟩
    unfold okT
    rw [e1, e2]
    by_cases e3 : i = 0
    · rw [h0 e3]; rfl
    · simp [e3]
  · have e1 : (rs.set k (c, l, h)).getD i zTimer = rs.getD i zTimer := by rw [List.getD_eq_getElem?_getD, List.getElem?_set_ne (fun q => e q.symm), List.getD_eq_getElem?_getD]
    have := timB_at hr i hi
    unfold okT at this ⊢
    rw [e1]; exact this
theorem timB_new : timB newTs = true := by decide
set_option maxRecDepth 100000 in
set_option maxHeartbeats 1000000 in
theorem srcNext1 (N : Int) (p : Option Addr) (w : World) (hN : N ≤ 1) :
    Calls Try.prog 68 #[.pointer p, .int .i64 N] w fun e w' => e = .returned (.int .i64 0) ∧ w' = w := by
  go_enter Try.func68, Try.ntmps68
  go_wp2
  go_ret
  exact ⟨rfl, rfl⟩
/-- A drawn list: valid, of its own. -/
def GivesTim (w : World) (R : World → Prop) (e : Ending) (w' : World) : Prop :=
  ∃ rs A c, e = .returned (.slice A 4 c) ∧ Hid (timB rs = true) ∧ Hid (OwnTimer w' w.heap.size w'.heap.size A rs) ∧ Hid (R w')
/-- One place of the list, drawn anew. -/
theorem tim_put {w W : World} {b Bk : Nat} {A : Option Addr} {n c : Nat} {zs : List Nat} {K k : Nat} {rs : List TTimer} (hk : k < 4) (hr : timB rs = true) (O : OwnTimer W w.heap.size W.heap.size (some ⟨Bk, 0, none⟩) rs) (S : Src W b A n c zs K) (hb : b < w.heap.size) (k1 : Btw b (b + 1) w W) (x : TTimer) :
    (∃ v, W.cell? ⟨Bk, k * 3, none⟩ = some (.int .i64 v)) ∧ (∃ v, W.cell? ⟨Bk, k * 3 + 1, none⟩ = some (.int .i64 v)) ∧ (∃ v, W.cell? ⟨Bk, k * 3 + 2, none⟩ = some (.bool v)) ∧ (∀ x, W.frozen? ⟨Bk, x, none⟩ = false) ∧
      (let W2 := ((W.setCell ⟨Bk, k * 3, none⟩ (.int .i64 x.1)).setCell ⟨Bk, k * 3 + 1, none⟩ (.int .i64 x.2.1)).setCell ⟨Bk, k * 3 + 2, none⟩ (.bool x.2.2)
       OwnTimer W2 w.heap.size W2.heap.size (some ⟨Bk, 0, none⟩) (rs.set k x) ∧ Src W2 b A n c zs K ∧ Btw b (b + 1) w W2) := by
  obtain ⟨b', m, f, eA, ⟨g0, g1, g2⟩, gz, q1, q2, hrow, hput, -⟩ := O.put k (by rw [timB_len hr]; exact hk)
  injection eA with eA
  injection eA with eA _ _
  subst eA
  have hz : W.heap.size ≤ (((W.setCell ⟨Bk, k * 3, none⟩ (.int .i64 x.1)).setCell ⟨Bk, k * 3 + 1, none⟩ (.int .i64 x.2.1)).setCell ⟨Bk, k * 3 + 2, none⟩ (.bool x.2.2)).heap.size :=
    Nat.le_trans (Nat.le_trans (But.setCell (p := fun _ => True) W (a := ⟨Bk, k * 3, none⟩) trivial _).size (But.setCell (p := fun _ => True) _ (a := ⟨Bk, k * 3 + 1, none⟩) trivial _).size) (But.setCell (p := fun _ => True) _ (a := ⟨Bk, k * 3 + 2, none⟩) trivial _).size
  exact ⟨⟨_, g0⟩, ⟨_, g1⟩, ⟨_, g2⟩, gz, OwnR.wide (hput x) (Nat.le_refl _) hz, ((S.new hb (q := ⟨Bk, k * 3, none⟩) q1 _).new hb (q := ⟨Bk, k * 3 + 1, none⟩) q1 _).new hb (q := ⟨Bk, k * 3 + 2, none⟩) q1 _, ((k1.new (q := ⟨Bk, k * 3, none⟩) q1 _).new (q := ⟨Bk, k * 3 + 1, none⟩) q1 _).new (q := ⟨Bk, k * 3 + 2, none⟩) q1 _⟩
set_option maxRecDepth 100000 in
set_option maxHeartbeats 8000000 in
theorem srcTimers (b : Nat) (A : Option Addr) (n c : Nat) (zs : List Nat) (K : Nat) (w : World) (hK : K ≤ 900) (h : Src w b A n c zs K) :
    Calls Try.prog 55 #[.pointer (some ⟨b, 0, none⟩)] w (GivesTim w (fun w' => Src w' b A n c zs (K + 20) ∧ Btw b (b + 1) w w')) := by
  have HN := Lib.hid (fun N K W (h1 : 2 ≤ N) (h2 : N ≤ 256) (h3 : K ≤ 1000) (h : Src W b A n c zs K) => srcNext N b A n c zs K W h1 h2 (by omega) h)
  have HCh := Lib.hid (fun K W (h3 : K ≤ 1000) (h : Src W b A n c zs K) => srcChance 3 b A n c zs K W (by omega) (by omega) (by omega) h)
  have HNew := Lib.hid (specNewTimersA w)
  have HS := Lib.hid h
  have HLt := Lib.hid h.lt
  clear h
  go_enter Try.func55, Try.ntmps55
  go_wp2_with fail
  refine HNew.out.mono ?_
  rintro e w1 ⟨A1, c1, rfl, O1, hb1⟩
  have O1 := (own_rTimer.1 (OwnA.uncons O1.out).1).2
  obtain ⟨Bk, m, f, rfl, -, -, q1, q2, -⟩ := O1.put 0 (by decide)
  have HO : Hid (OwnTimer w1 w.heap.size w1.heap.size (some ⟨Bk, 0, none⟩) newTs) := Lib.hid O1
  have HS1 := Lib.hid (HS.out.below hb1 HLt.out)
  have HB1 := Lib.hid (Btw.of_below hb1 b (b + 1))
  simp only [show newTs.length = 4 from rfl]
  clear HNew HS O1 hb1
  go_wp2
  go_loopw [4] (fun i wr => ∃ k : Nat, k ≤ 4 ∧ i = .int .i64 (k : Int) ∧ Hid (∃ rs, timB rs = true ∧ OwnTimer wr w.heap.size wr.heap.size (some ⟨Bk, 0, none⟩) rs) ∧ Hid (Src wr b A n c zs (K + 5 * k)) ∧ Hid (Btw b (b + 1) w wr)) (fun i _ => 4 - (intOf i).toNat)
  case atStart => exact ⟨0, Nat.zero_le _, rfl, Lib.hid ⟨_, timB_new, HO.out⟩, HS1, HB1⟩
  case round =>
    clear HO HS1 HB1
    obtain ⟨k, hk, rfl, HO, HS, HB⟩ := hrel
    by_cases hlt : k < 4
    · have i1 : (k : Int) < 4 := by omega
      have i0 : (0 : Int) ≤ (k : Int) := by omega
      obtain ⟨rs, hr, O⟩ := HO.out
      have HR := Lib.hid hr
      have HO1 := Lib.hid O
      clear HO hr O
      go_wp2_with fail
      refine (HN.out 9 _ wr (by omega) (by omega) (by omega) HS.out).mono ?_
      rintro e w2 ⟨v1, rfl, hv1, S2, k2⟩
      go_wp2_with fail
      refine (HN.out 256 _ w2 (by omega) (by omega) (by omega) S2.out).mono ?_
      rintro e w3 ⟨v2, rfl, hv2, S3, k3⟩
      have hb3 := alloc_below w3 (.cells #[.int .i64 0, .int .i64 (1 + (v1 : Int)), .int .i64 (1 + (v2 : Int))] 3)
      have X3 := Lib.hid (Box.new w3 3 #[.int .i64 0, .int .i64 (1 + (v1 : Int)), .int .i64 (1 + (v2 : Int))])
      have S4 := Lib.hid (S3.out.below hb3 S3.out.lt)
      have k4 := Lib.hid ((k2.trans k3).trans (Btw.of_below hb3 b (b + 1)))
      have HLt3 := Lib.hid S3.out.lt
      clear hb3
      go_wp2_with fail
      refine (HN.out 3 _ _ (by omega) (by omega) (by omega) S4.out).mono ?_
      rintro e w5 ⟨v3, rfl, hv3, S5, k5⟩
      have k15 := Lib.hid (k4.out.trans k5)
      have hcell : ∃ l : Nat, l ≤ 256 ∧ w5.cell? ⟨w3.heap.size, v3, none⟩ = some (.int .i64 (l : Int)) := by
        have X5 := X3.out.btw k5 (.inr (by have := HLt3.out; omega))
        have h3 : v3 = 0 ∨ v3 = 1 ∨ v3 = 2 := by omega
        rcases h3 with rfl | rfl | rfl
        · exact ⟨0, by omega, X5.cell 0 rfl⟩
        · exact ⟨1 + v1, by omega, by have := X5.cell 1 rfl; simpa using this⟩
        · exact ⟨1 + v2, by omega, by have := X5.cell 2 rfl; simpa using this⟩
      obtain ⟨l, hl, g⟩ := hcell
      have j3 : (v3 : Int) < 3 := by omega
      have j0 : (0 : Int) ≤ (v3 : Int) := by omega
      have HO5 : Hid (OwnTimer w5 w.heap.size w5.heap.size (some ⟨Bk, 0, none⟩) rs) := Lib.hid (OwnR.wide (ownTimer_but HO1.out (But.of_btw k15.out) (by have := HLt.out; omega)) (Nat.le_refl _) k15.out.size)
      have HB5 := Lib.hid (HB.out.trans k15.out)
      clear X3 S2 S3 S4 k2 k3 k4 k5 k15 HO1 HB HS HLt3
      rcases (by omega : l = 0 ∨ l = 1 ∨ 2 ≤ l) with rfl | rfl | hl3
      · have g : w5.cell? ⟨w3.heap.size, v3, none⟩ = some (.int .i64 0) := g
        have HN1 := Lib.hid (srcNext1 1 (some ⟨b, 0, none⟩) w5 (by omega))
        have S6a := S5
        have HO6a := HO5
        have HB6a := HB5
        clear S5 HO5 HB5
        go_wp2_with fail
        refine HN1.out.mono ?_
        rintro e w6 ⟨rfl, rfl⟩
        clear g HN1
        by_cases hk0 : k = 0
        · have hkp : ¬ (0 : Int) < (k : Int) := by omega
          clear hk0
          have S6 := S6a
          have HO6 := HO6a
          have HB6 := HB6a
          clear S6a HO6a HB6a
          obtain ⟨⟨y0, g0⟩, ⟨y1, g1⟩, ⟨y2, g2⟩, gz, hO, hS, hB⟩ := tim_put hlt HR.out HO6.out S6.out HLt.out HB6.out (0, 0, false)
          simp only at hO hS hB
          have HR7 := Lib.hid (timB_set (k := k) (c := 0) (l := 0) (h := false) HR.out hlt (by omega) (by omega) (fun _ => rfl))
          have HO7 := Lib.hid hO
          have HS7 := Lib.hid (hS.mono (K' := K + 5 * (k + 1)) (by omega))
          have HB7 := Lib.hid hB
          have gz0 := gz (k * 3)
          have gz1 := gz (k * 3 + 1)
          have gz2 := gz (k * 3 + 2)
          clear hO hS hB gz HO6 S6 HB6 HR
          go_wp2
          go_roundw
          case rel => exact ⟨k + 1, by omega, by go_num, Lib.hid ⟨_, HR7.out, HO7.out⟩, HS7, HB7⟩
          case measure => simp [intOf]; omega
        · have hkp : (0 : Int) < (k : Int) := by omega
          go_wp2_with fail
          refine (HCh.out _ _ (by omega) S6a.out).mono ?_
          rintro e w7 ⟨ch, rfl, S6, k7⟩
          have HO6 : Hid (OwnTimer w7 w.heap.size w7.heap.size (some ⟨Bk, 0, none⟩) rs) := Lib.hid (OwnR.wide (ownTimer_but HO6a.out (But.of_btw k7) (by have := HLt.out; omega)) (Nat.le_refl _) k7.size)
          have HB6 := Lib.hid (HB6a.out.trans k7)
          clear S6a HO6a HB6a k7
          obtain ⟨⟨y0, g0⟩, ⟨y1, g1⟩, ⟨y2, g2⟩, gz, hO, hS, hB⟩ := tim_put hlt HR.out HO6.out S6.out HLt.out HB6.out (0, 0, ch)
          simp only at hO hS hB
          have HR7 := Lib.hid (timB_set (k := k) (c := 0) (l := 0) (h := ch) HR.out hlt (by omega) (by omega) (fun e => absurd e hk0))
          have HO7 := Lib.hid hO
          have HS7 := Lib.hid (hS.mono (K' := K + 5 * (k + 1)) (by omega))
          have HB7 := Lib.hid hB
          have gz0 := gz (k * 3)
          have gz1 := gz (k * 3 + 1)
          have gz2 := gz (k * 3 + 2)
          clear hO hS hB gz HO6 S6 HB6 HR
          go_wp2
          go_roundw
          case rel => exact ⟨k + 1, by omega, by go_num, Lib.hid ⟨_, HR7.out, HO7.out⟩, HS7, HB7⟩
          case measure => simp [intOf]; omega
      · have g : w5.cell? ⟨w3.heap.size, v3, none⟩ = some (.int .i64 1) := g
        have HN1 := Lib.hid (srcNext1 1 (some ⟨b, 0, none⟩) w5 (by omega))
        have S6a := S5
        have HO6a := HO5
        have HB6a := HB5
        clear S5 HO5 HB5
        go_wp2_with fail
        refine HN1.out.mono ?_
        rintro e w6 ⟨rfl, rfl⟩
        clear g HN1
        by_cases hk0 : k = 0
        · have hkp : ¬ (0 : Int) < (k : Int) := by omega
          clear hk0
          have S6 := S6a
          have HO6 := HO6a
          have HB6 := HB6a
          clear S6a HO6a HB6a
          obtain ⟨⟨y0, g0⟩, ⟨y1, g1⟩, ⟨y2, g2⟩, gz, hO, hS, hB⟩ := tim_put hlt HR.out HO6.out S6.out HLt.out HB6.out (0, 1, false)
          simp only at hO hS hB
          have HR7 := Lib.hid (timB_set (k := k) (c := 0) (l := 1) (h := false) HR.out hlt (by omega) (by omega) (fun _ => rfl))
          have HO7 := Lib.hid hO
          have HS7 := Lib.hid (hS.mono (K' := K + 5 * (k + 1)) (by omega))
          have HB7 := Lib.hid hB
          have gz0 := gz (k * 3)
          have gz1 := gz (k * 3 + 1)
          have gz2 := gz (k * 3 + 2)
          clear hO hS hB gz HO6 S6 HB6 HR
          go_wp2
          go_roundw
          case rel => exact ⟨k + 1, by omega, by go_num, Lib.hid ⟨_, HR7.out, HO7.out⟩, HS7, HB7⟩
          case measure => simp [intOf]; omega
        · have hkp : (0 : Int) < (k : Int) := by omega
          go_wp2_with fail
          refine (HCh.out _ _ (by omega) S6a.out).mono ?_
          rintro e w7 ⟨ch, rfl, S6, k7⟩
          have HO6 : Hid (OwnTimer w7 w.heap.size w7.heap.size (some ⟨Bk, 0, none⟩) rs) := Lib.hid (OwnR.wide (ownTimer_but HO6a.out (But.of_btw k7) (by have := HLt.out; omega)) (Nat.le_refl _) k7.size)
          have HB6 := Lib.hid (HB6a.out.trans k7)
          clear S6a HO6a HB6a k7
          obtain ⟨⟨y0, g0⟩, ⟨y1, g1⟩, ⟨y2, g2⟩, gz, hO, hS, hB⟩ := tim_put hlt HR.out HO6.out S6.out HLt.out HB6.out (0, 1, ch)
          simp only at hO hS hB
          have HR7 := Lib.hid (timB_set (k := k) (c := 0) (l := 1) (h := ch) HR.out hlt (by omega) (by omega) (fun e => absurd e hk0))
          have HO7 := Lib.hid hO
          have HS7 := Lib.hid (hS.mono (K' := K + 5 * (k + 1)) (by omega))
          have HB7 := Lib.hid hB
          have gz0 := gz (k * 3)
          have gz1 := gz (k * 3 + 1)
          have gz2 := gz (k * 3 + 2)
          clear hO hS hB gz HO6 S6 HB6 HR
          go_wp2
          go_roundw
          case rel => exact ⟨k + 1, by omega, by go_num, Lib.hid ⟨_, HR7.out, HO7.out⟩, HS7, HB7⟩
          case measure => simp [intOf]; omega
      · have hm : max (l : Int) 1 = (l : Int) := by omega
        have hl1' : (1 : Int) ≤ (l : Int) := by omega
        have hl2 : ¬ (l : Int) ≤ 1 := by omega
        go_wp2_with fail
        refine (HN.out l _ w5 (by omega) (by omega) (by omega) S5.out).mono ?_
        rintro e w6 ⟨v4, rfl, hv4, S6a, k6⟩
        have HO6a : Hid (OwnTimer w6 w.heap.size w6.heap.size (some ⟨Bk, 0, none⟩) rs) := Lib.hid (OwnR.wide (ownTimer_but HO5.out (But.of_btw k6) (by have := HLt.out; omega)) (Nat.le_refl _) k6.size)
        have HB6a := Lib.hid (HB5.out.trans k6)
        clear S5 HO5 HB5 k6 g
        by_cases hk0 : k = 0
        · have hkp : ¬ (0 : Int) < (k : Int) := by omega
          clear hk0
          have S6 := S6a
          have HO6 := HO6a
          have HB6 := HB6a
          clear S6a HO6a HB6a
          obtain ⟨⟨y0, g0⟩, ⟨y1, g1⟩, ⟨y2, g2⟩, gz, hO, hS, hB⟩ := tim_put hlt HR.out HO6.out S6.out HLt.out HB6.out ((v4 : Int), (l : Int), false)
          simp only at hO hS hB
          have HR7 := Lib.hid (timB_set (k := k) (c := (v4 : Int)) (l := (l : Int)) (h := false) HR.out hlt (by omega) (by omega) (fun _ => rfl))
          have HO7 := Lib.hid hO
          have HS7 := Lib.hid (hS.mono (K' := K + 5 * (k + 1)) (by omega))
          have HB7 := Lib.hid hB
          have gz0 := gz (k * 3)
          have gz1 := gz (k * 3 + 1)
          have gz2 := gz (k * 3 + 2)
          clear hO hS hB gz HO6 S6 HB6 HR
          go_wp2
          go_roundw
          case rel => exact ⟨k + 1, by omega, by go_num, Lib.hid ⟨_, HR7.out, HO7.out⟩, HS7, HB7⟩
          case measure => simp [intOf]; omega
        · have hkp : (0 : Int) < (k : Int) := by omega
          go_wp2_with fail
          refine (HCh.out _ _ (by omega) S6a.out).mono ?_
          rintro e w7 ⟨ch, rfl, S6, k7⟩
          have HO6 : Hid (OwnTimer w7 w.heap.size w7.heap.size (some ⟨Bk, 0, none⟩) rs) := Lib.hid (OwnR.wide (ownTimer_but HO6a.out (But.of_btw k7) (by have := HLt.out; omega)) (Nat.le_refl _) k7.size)
          have HB6 := Lib.hid (HB6a.out.trans k7)
          clear S6a HO6a HB6a k7
          obtain ⟨⟨y0, g0⟩, ⟨y1, g1⟩, ⟨y2, g2⟩, gz, hO, hS, hB⟩ := tim_put hlt HR.out HO6.out S6.out HLt.out HB6.out ((v4 : Int), (l : Int), ch)
          simp only at hO hS hB
          have HR7 := Lib.hid (timB_set (k := k) (c := (v4 : Int)) (l := (l : Int)) (h := ch) HR.out hlt (by omega) (by omega) (fun e => absurd e hk0))
          have HO7 := Lib.hid hO
          have HS7 := Lib.hid (hS.mono (K' := K + 5 * (k + 1)) (by omega))
          have HB7 := Lib.hid hB
          have gz0 := gz (k * 3)
          have gz1 := gz (k * 3 + 1)
          have gz2 := gz (k * 3 + 2)
          clear hO hS hB gz HO6 S6 HB6 HR
          go_wp2
          go_roundw
          case rel => exact ⟨k + 1, by omega, by go_num, Lib.hid ⟨_, HR7.out, HO7.out⟩, HS7, HB7⟩
          case measure => simp [intOf]; omega
    · obtain rfl : k = 4 := by omega
      obtain ⟨rs, hr, O⟩ := HO.out
      have HR := Lib.hid hr
      have HO1 := Lib.hid O
      clear hr O
      go_wp2
      go_ret
      exact ⟨rs, _, _, rfl, HR, HO1, Lib.hid ⟨HS.out.mono (by omega), HB.out⟩⟩
set_option maxRecDepth 100000 in
theorem timersDrawn (A : Option Addr) (n c : Nat) (zs : List Nat) (w : World) (hn : n ≤ maxLen) (hl : zs.length = n) (h : ByB w w.heap.size A zs) :
    Calls Try.prog 19 #[.slice A n c] w (GivesTim w (fun w' => Below w.heap.size w w')) := by
  have HC := Lib.hid (srcNew A n c zs w hn hl h)
  have HF := Lib.hid (fun W (h : Src W w.heap.size A n c zs 0) => srcTimers w.heap.size A n c zs 0 W (by omega) h)
  unfold GivesTim at HF
  clear hn hl h
  go_enter Try.func19, Try.ntmps19
  go_wp2_with fail
  refine HC.out.mono ?_
  rintro e w1 ⟨rfl, S1, hb1⟩
  go_wp2_with fail
  refine (HF.out w1 S1.out).mono ?_
  rintro e w2 ⟨rs, B, d, rfl, HD, HO, HR⟩
  go_wp2
  go_ret
  exact ⟨rs, B, d, rfl, HD, Lib.hid (OwnR.wide HO.out hb1.size (Nat.le_refl _)), Lib.hid (hb1.trans (HR.out.2.below hb1.size))⟩
end Go.Proofs.Ytagdclbpgkilgaa
