/- The iterator over the timers that come round: it writes the list's counts between two rounds. -/
import Derived.Test.YtagdclbpgkilgaaTimTick
namespace Go.Proofs.Ytagdclbpgkilgaa
open Go.RowKit Go.Shelf

attribute [local go_sem] Oper.semAt_some

theorem rowIs_same {w w' : World} {b : Nat} {t : TypeId} {n : Nat} {f : Nat → Value} (h : w'.heap[b]? = w.heap[b]?) (hr : w.rowIs b t n f) : w'.rowIs b t n f := by
  obtain ⟨cs, h1, h2⟩ := hr
  exact ⟨cs, h.trans h1, h2⟩
theorem ownTimer_same {w w' : World} {lo hi b : Nat} {rs : List TTimer} (h : OwnTimer w lo hi (some ⟨b, 0, none⟩) rs) (e : w'.heap[b]? = w.heap[b]?) : OwnTimer w' lo hi (some ⟨b, 0, none⟩) rs := by
  rcases h with h | ⟨b', m, f, eA, h1, h2, hm, hr, hf⟩
  · exact .inl h
  · injection eA with eA
    injection eA with eA _ _
    subst eA
    exact .inr ⟨b, m, f, rfl, h1, h2, hm, rowIs_same e hr, hf⟩
theorem But.cell {p : Nat → Prop} {A B : World} (h : But p A B) {a : Addr} {v : Value} (hc : A.cell? a = some v) (hp : ¬ p a.block) : B.cell? a = some v :=
  (World.cell?_of_block (h.block _ (cell_lt hc) hp)).trans hc
/-- The rounds: the number of each timer that comes round, and how often. -/
abbrev FireX := Nat × Int
def fireV (x : FireX) : Array Value := #[.int .i64 (x.1 : Int), .int .i64 x.2]
def xsT (rs : List TTimer) (n : Int) (k : Nat) : List FireX := ((List.range k).filter fun i => decide (0 < firesT rs n i)).map fun i => (i, firesT rs n i)
theorem xsT_yes {rs : List TTimer} {n : Int} {k : Nat} (h : 0 < firesT rs n k) : xsT rs n (k + 1) = xsT rs n k ++ [(k, firesT rs n k)] := by simp [xsT, List.range_succ, h]
theorem xsT_no {rs : List TTimer} {n : Int} {k : Nat} (h0 : firesT rs n k ≤ 0) : xsT rs n (k + 1) = xsT rs n k := by
  have h : ¬ 0 < firesT rs n k := by omega
  simp [xsT, List.range_succ, h]
theorem xsT_pre (rs : List TTimer) (n : Int) : ∀ (m k : Nat), ∃ rest, xsT rs n (k + m) = xsT rs n k ++ rest
  | 0, k => ⟨[], by simp⟩
  | m + 1, k => by
    obtain ⟨rest, h⟩ := xsT_pre rs n m k
    by_cases q : 0 < firesT rs n (k + m)
    · exact ⟨rest ++ [_], by rw [show k + (m + 1) = k + m + 1 from rfl, xsT_yes q, h, List.append_assoc]⟩
    · exact ⟨rest, by rw [show k + (m + 1) = k + m + 1 from rfl, xsT_no (by omega), h]⟩
theorem xsT_at {rs : List TTimer} {n : Int} {k : Nat} (hk : k < 4) (h : 0 < firesT rs n k) : ∃ rest, xsT rs n 4 = xsT rs n k ++ (k, firesT rs n k) :: rest := by
  obtain ⟨rest, e⟩ := xsT_pre rs n (4 - (k + 1)) (k + 1)
  rw [show k + 1 + (4 - (k + 1)) = 4 by omega, xsT_yes h, List.append_assoc] at e
  exact ⟨rest, e⟩

theorem round_off {rs : List TTimer} {N : Int} {k : Nat} (hk : k < 4) {c : Int} {h : Bool} (hx : rs.getD k zTimer = (c, 0, h)) : firesT rs N k = 0 ∧ tickR rs N (k + 1) = tickR rs N k := by
  have e1 : firesT rs N k = 0 := by rw [firesT_eq, hx]; rfl
  have e2 : afterT rs N k = (c, 0, h) := by unfold afterT; rw [hx]; rfl
  refine ⟨e1, ?_⟩
  have hl : k < (tickR rs N k).length := by rw [tickR_len]; exact hk
  have e3 := tickR_at rs N k k hk
  rw [if_neg (Nat.lt_irrefl _), hx, List.getD_eq_getElem?_getD, List.getElem?_eq_getElem hl, Option.getD_some] at e3
  rw [← tickR_next rs N k hk, e2, ← e3]
  exact List.set_getElem_self hl
theorem round_on {rs : List TTimer} {N kk : Int} {k : Nat} (hk : k < 4) {c l : Int} {h : Bool} (hx : rs.getD k zTimer = (c, l, h)) (hl : l ≠ 0) (hkk : ksT (c, l, h) N (aheadT rs N k) = kk) : firesT rs N k = (c + kk) / l ∧ (tickR rs N k).set k ((c + kk) % l, l, h) = tickR rs N (k + 1) := by
  have e1 : firesT rs N k = (c + kk) / l := by rw [firesT_eq, hx, hkk]; unfold fireT; rw [if_neg hl]
  have e2 : afterT rs N k = ((c + kk) % l, l, h) := by unfold afterT; rw [hx, hkk]; unfold newT; rw [if_neg hl]
  exact ⟨e1, by rw [← e2]; exact tickR_next rs N k hk⟩
set_option maxHeartbeats 8000000 in
set_option maxRecDepth 100000 in
theorem expiredI (n B1 B2 Bk Bo n₀ c lo hi : Nat) (N : Int) (rs : List TTimer) (W0 : World) (hn : 2 ≤ n) (ht : timB rs = true) (hN : ntB N = true) (_h0 : n₀ ≤ W0.heap.size)
    (hB1 : B1 < n₀) (hB2 : B2 < n₀) (hBk : Bk < n₀) (hd1 : B1 ≠ Bk ∧ B1 ≠ Bo) (hd2 : B2 ≠ Bk ∧ B2 ≠ Bo) (hd3 : Bk ≠ Bo)
    (c1 : W0.cell? ⟨B1, 0, none⟩ = some (.slice (some ⟨Bk, 0, none⟩) 4 c)) (c2 : W0.cell? ⟨B2, 0, none⟩ = some (.int .i64 N)) (hr : OwnTimer W0 lo hi (some ⟨Bk, 0, none⟩) rs) :
    IterSt Fence.wide n Try.prog 87 #[.pointer (some ⟨B1, 0, none⟩), .pointer (some ⟨B2, 0, none⟩)] fireV Bk Bo n₀ (xsT rs N 4) (fun W => OwnTimer W lo hi (some ⟨Bk, 0, none⟩) (tickR rs N 4)) W0 := by
  intro l J hl0 hl1 hJ hY hJ0
  refine callsIn_of_wp Try.func87 rfl trivial ?_ rfl
  simp only [Try.ntmps87, List.size_toArray, List.length_cons, List.length_nil, Nat.reduceAdd, Nat.reduceSub, Array.replicate_succ, Array.replicate_zero, List.push_toArray, List.append_toArray, List.nil_append, List.cons_append]
  have HL : Hid (rs.length = 4) := Lib.hid (timB_len ht)
  have HR0 : Hid (OwnTimer W0 lo hi (some ⟨Bk, 0, none⟩) (tickR rs N 0)) := Lib.hid (by rw [tickR_zero N (timB_len ht)]; exact hr)
  have HJ0 : Hid (J (xsT rs N 0) W0) := Lib.hid hJ0
  have HJ := Lib.hid hJ
  have HY := Lib.hid hY
  have HT := Lib.hid ht
  have HN := Lib.hid hN
  have HD : Hid (B1 < n₀ ∧ B2 < n₀ ∧ Bk < n₀ ∧ B1 ≠ Bk ∧ B1 ≠ Bo ∧ B2 ≠ Bk ∧ B2 ≠ Bo ∧ Bk ≠ Bo ∧ n₀ ≤ l ∧ l < W0.heap.size) := Lib.hid ⟨hB1, hB2, hBk, hd1.1, hd1.2, hd2.1, hd2.2, hd3, hl0, hl1⟩
  have HC : Hid (W0.cell? ⟨B1, 0, none⟩ = some (.slice (some ⟨Bk, 0, none⟩) 4 c) ∧ W0.cell? ⟨B2, 0, none⟩ = some (.int .i64 N)) := Lib.hid ⟨c1, c2⟩
  have HP := Lib.hid (fun i hi => okT_tm (timB_at ht i hi))
  have HK := Lib.hid (fun i hi => ksT_range ht hN i hi)
  have HF := Lib.hid (fun i hi => firesT_range ht hN i hi)
  clear hr hJ0 hJ hY ht hN hB1 hB2 hBk hd1 hd2 hd3 hl0 hl1 c2
  gi_wp2
  gi_loopw [9, 4] (fun i t wr => ∃ k : Nat, k ≤ 4 ∧ i = .int .i64 (k : Int) ∧ t = .int .i64 (aheadT rs N k) ∧ Hid (J (xsT rs N k) wr) ∧ Hid (OwnTimer wr lo hi (some ⟨Bk, 0, none⟩) (tickR rs N k)) ∧ Hid (W0.heap.size ≤ wr.heap.size) ∧ Hid (wr.cell? ⟨B1, 0, none⟩ = some (.slice (some ⟨Bk, 0, none⟩) 4 c) ∧ wr.cell? ⟨B2, 0, none⟩ = some (.int .i64 N))) (fun i _ _ => 4 - (intOf i).toNat)
  case atStart => exact ⟨0, Nat.zero_le _, rfl, rfl, HJ0, HR0, Lib.hid (Nat.le_refl _), HC⟩
  case round =>
    clear HJ0 HR0 HC c1
    obtain ⟨k, hk, rfl, rfl, HJk, HR, HS, HC⟩ := hrel
    by_cases hlt : k < 4
    · have i1 : (k : Int) < 4 := by omega
      have i0 : (0 : Int) ≤ (k : Int) := by omega
      obtain ⟨c1, c2⟩ := HC.out
      have hcl := HT.out
      obtain ⟨b, m, f, eA, ⟨g0, g1, g2⟩, gz, q1, q2, hrow, -, hput, -, -⟩ := HR.out.put k (by rw [tickR_len]; exact hlt)
      injection eA with eA
      injection eA with eA _ _
      subst eA
      rw [tickR_at rs N k k hlt, if_neg (Nat.lt_irrefl _)] at g0 g1 g2 hput
      have hP := HP.out k hlt
      have hK := HK.out k hlt
      obtain ⟨⟨c0, l0, h0⟩, hx⟩ : ∃ x, rs.getD k zTimer = x := ⟨_, rfl⟩
      rw [hx] at g0 g1 g2 hput hP hK
      simp only at g0 g1 g2 hput
      have HX := Lib.hid hx
      have gz0 := gz (k * 3)
      obtain ⟨p0, p1, p2, p3, p4⟩ := hP
      simp only at p0 p1 p2 p3 p4
      have HPut := Lib.hid hput
      clear hcl hx gz hrow hput
      cases h0 with
      | true =>
        have HKK : Hid (ksT (c0, l0, true) N (aheadT rs N k) = aheadT rs N k) := Lib.hid rfl
        rw [HKK.out] at hK
        obtain ⟨k0, k1⟩ := hK
        by_cases hl : l0 = 0
        · subst hl
          obtain ⟨r1, r2⟩ := round_off (N := N) hlt HX.out
          have HTk := Lib.hid (tickOff Bk (k * 3) (aheadT rs N k) wr g1)
          have HJ2 := HJk
          have HR2 : Hid (OwnTimer wr lo hi (some ⟨Bk, 0, none⟩) (tickR rs N (k + 1))) := Lib.hid (by rw [r2]; exact HR.out)
          have HS2 := HS
          have HC2 := HC
          have HQ : Hid (firesT rs N k = 0) := Lib.hid r1
          have HNP : Hid (firesT rs N k ≤ 0) := Lib.hid (by rw [r1]; omega)
          generalize aheadT rs N k = ah at HTk k0 k1
          clear r1 r2 HJk HR HPut
          gi_wp2
          refine ⟨trivial, fun _ => by omega, ?_⟩
          refine (callsIn_wide.2 HTk.out).mono ?_
          rintro e w2 ⟨rfl, rfl⟩
          clear g0 g1 g2
          have HJ3 : Hid (J (xsT rs N (k + 1)) w2) := Lib.hid (by rw [xsT_no HNP.out]; exact HJ2.out)
          clear HNP
          gi_wp2
          refine ⟨fun _ h => (by cases h), ?_⟩
          gi_wp2
          go_roundw
          case rel => exact ⟨k + 1, by omega, by go_num, by show _ = Value.int .i64 (firesT rs N k); rw [HQ.out], HJ3, HR2, HS2, HC2⟩
          case measure => simp [intOf]; omega
        · have l1 : 0 < l0 := by omega
          obtain ⟨r1, r2⟩ := round_on (N := N) hlt HX.out hl HKK.out
          have HTk := Lib.hid (tickOn Bk (k * 3) c0 l0 (aheadT rs N k) _ _ wr g0 g1 gz0 p2 p3 k0 k1 l1 p1 r1.symm rfl)
          have hbk : But (fun q => q = Bk ∨ W0.heap.size ≤ q) wr (wr.setCell ⟨Bk, k * 3, none⟩ (.int .i64 ((c0 + (aheadT rs N k)) % l0))) := But.setCell wr (.inl rfl) _
          have hp0 := HPut.out ((c0 + (aheadT rs N k)) % l0)
          rw [r2] at hp0
          have HR2 := Lib.hid hp0
          have HJ2 := Lib.hid (HJ.out _ _ _ HJk.out hbk)
          have HS2 : Hid (W0.heap.size ≤ (wr.setCell ⟨Bk, k * 3, none⟩ (.int .i64 ((c0 + (aheadT rs N k)) % l0))).heap.size) := Lib.hid (Nat.le_trans HS.out hbk.size)
          have HC2 : Hid ((wr.setCell ⟨Bk, k * 3, none⟩ (.int .i64 ((c0 + (aheadT rs N k)) % l0))).cell? ⟨B1, 0, none⟩ = some (.slice (some ⟨Bk, 0, none⟩) 4 c) ∧ (wr.setCell ⟨Bk, k * 3, none⟩ (.int .i64 ((c0 + (aheadT rs N k)) % l0))).cell? ⟨B2, 0, none⟩ = some (.int .i64 N)) := Lib.hid ⟨hbk.cell HC.out.1 (by have := HD.out; have := HS.out; simp only; omega), hbk.cell HC.out.2 (by have := HD.out; simp only; omega)⟩
          generalize wr.setCell ⟨Bk, k * 3, none⟩ (.int .i64 ((c0 + (aheadT rs N k)) % l0)) = w2 at HTk HR2 HJ2 HS2 HC2
          obtain ⟨fq, hfq⟩ : ∃ fq, firesT rs N k = fq := ⟨_, rfl⟩
          have HQ := Lib.hid hfq
          rw [hfq] at HTk
          have hr := HF.out k hlt
          rw [hfq] at hr
          obtain ⟨f0, f1⟩ := hr
          generalize aheadT rs N k = ah at HTk k0 k1 HKK
          clear r1 r2 HJk HR HPut hbk hp0 hfq
          gi_wp2
          refine ⟨trivial, fun _ => by omega, ?_⟩
          refine (callsIn_wide.2 HTk.out).mono ?_
          rintro e w2' ⟨rfl, rfl⟩
          clear g0 g1 g2 gz0 c1 c2 HTk
          by_cases hpos : 0 < firesT rs N k
          · skip
            obtain ⟨rest, hrest⟩ := xsT_at hlt hpos
            have HX1 := Lib.hid (xsT_yes hpos)
            obtain ⟨fn, tmps, assign, body, hy, hRd⟩ := HY.out (xsT rs N k) (k, firesT rs N k) rest _ hrest HJ2.out
            dsimp only [fireV] at hy
            rw [HQ.out] at hy
            have HRd := Lib.hid hRd
            have HQ1 := Lib.hid hpos
            rw [HQ.out] at hpos
            clear hRd hrest
            gi_wp2
            refine ⟨fun _ => by omega, ?_⟩
            refine HRd.out.mono ?_
            rintro e w3 ⟨rfl, hJ3, hb3⟩
            have HJ3 : Hid (J (xsT rs N (k + 1)) w3) := Lib.hid (by rw [HX1.out]; exact hJ3)
            have HR3 : Hid (OwnTimer w3 lo hi (some ⟨Bk, 0, none⟩) (tickR rs N (k + 1))) := Lib.hid (ownTimer_same HR2.out (hb3.block Bk (by have := HD.out; have := HS2.out; omega) (by have := HD.out; omega)))
            have HS3 : Hid (W0.heap.size ≤ w3.heap.size) := Lib.hid (Nat.le_trans HS2.out hb3.size)
            have HC3 : Hid (w3.cell? ⟨B1, 0, none⟩ = some (.slice (some ⟨Bk, 0, none⟩) 4 c) ∧ w3.cell? ⟨B2, 0, none⟩ = some (.int .i64 N)) := Lib.hid ⟨hb3.cell HC2.out.1 (by have := HD.out; simp only; omega), hb3.cell HC2.out.2 (by have := HD.out; simp only; omega)⟩
            clear hJ3 hb3 hy
            gi_wp2
            go_roundw
            case rel => exact ⟨k + 1, by omega, by go_num, by show _ = Value.int .i64 (firesT rs N k); rw [HQ.out], HJ3, HR3, HS3, HC3⟩
            case measure => simp [intOf]; omega
          · have HNP : Hid (firesT rs N k ≤ 0) := Lib.hid (Int.not_lt.1 hpos)
            rw [HQ.out] at hpos
            have HJ3 : Hid (J (xsT rs N (k + 1)) _) := Lib.hid (by rw [xsT_no HNP.out]; exact HJ2.out)
            clear HNP
            gi_wp2
            refine ⟨fun _ h => (by cases h), ?_⟩
            gi_wp2
            go_roundw
            case rel => exact ⟨k + 1, by omega, by go_num, by show _ = Value.int .i64 (firesT rs N k); rw [HQ.out], HJ3, HR2, HS2, HC2⟩
            case measure => simp [intOf]; omega
      | false =>
        have HKK : Hid (ksT (c0, l0, false) N (aheadT rs N k) = N) := Lib.hid rfl
        rw [HKK.out] at hK
        obtain ⟨k0, k1⟩ := hK
        by_cases hl : l0 = 0
        · subst hl
          obtain ⟨r1, r2⟩ := round_off (N := N) hlt HX.out
          have HTk := Lib.hid (tickOff Bk (k * 3) (N) wr g1)
          have HJ2 := HJk
          have HR2 : Hid (OwnTimer wr lo hi (some ⟨Bk, 0, none⟩) (tickR rs N (k + 1))) := Lib.hid (by rw [r2]; exact HR.out)
          have HS2 := HS
          have HC2 := HC
          have HQ : Hid (firesT rs N k = 0) := Lib.hid r1
          have HNP : Hid (firesT rs N k ≤ 0) := Lib.hid (by rw [r1]; omega)
          generalize aheadT rs N k = ah
          clear r1 r2 HJk HR HPut
          gi_wp2
          refine ⟨trivial, fun _ => by omega, ?_⟩
          refine (callsIn_wide.2 HTk.out).mono ?_
          rintro e w2 ⟨rfl, rfl⟩
          clear g0 g1 g2
          have HJ3 : Hid (J (xsT rs N (k + 1)) w2) := Lib.hid (by rw [xsT_no HNP.out]; exact HJ2.out)
          clear HNP
          gi_wp2
          refine ⟨fun _ h => (by cases h), ?_⟩
          gi_wp2
          go_roundw
          case rel => exact ⟨k + 1, by omega, by go_num, by show _ = Value.int .i64 (firesT rs N k); rw [HQ.out], HJ3, HR2, HS2, HC2⟩
          case measure => simp [intOf]; omega
        · have l1 : 0 < l0 := by omega
          obtain ⟨r1, r2⟩ := round_on (N := N) hlt HX.out hl HKK.out
          have HTk := Lib.hid (tickOn Bk (k * 3) c0 l0 (N) _ _ wr g0 g1 gz0 p2 p3 k0 k1 l1 p1 r1.symm rfl)
          have hbk : But (fun q => q = Bk ∨ W0.heap.size ≤ q) wr (wr.setCell ⟨Bk, k * 3, none⟩ (.int .i64 ((c0 + (N)) % l0))) := But.setCell wr (.inl rfl) _
          have hp0 := HPut.out ((c0 + (N)) % l0)
          rw [r2] at hp0
          have HR2 := Lib.hid hp0
          have HJ2 := Lib.hid (HJ.out _ _ _ HJk.out hbk)
          have HS2 : Hid (W0.heap.size ≤ (wr.setCell ⟨Bk, k * 3, none⟩ (.int .i64 ((c0 + (N)) % l0))).heap.size) := Lib.hid (Nat.le_trans HS.out hbk.size)
          have HC2 : Hid ((wr.setCell ⟨Bk, k * 3, none⟩ (.int .i64 ((c0 + (N)) % l0))).cell? ⟨B1, 0, none⟩ = some (.slice (some ⟨Bk, 0, none⟩) 4 c) ∧ (wr.setCell ⟨Bk, k * 3, none⟩ (.int .i64 ((c0 + (N)) % l0))).cell? ⟨B2, 0, none⟩ = some (.int .i64 N)) := Lib.hid ⟨hbk.cell HC.out.1 (by have := HD.out; have := HS.out; simp only; omega), hbk.cell HC.out.2 (by have := HD.out; simp only; omega)⟩
          generalize wr.setCell ⟨Bk, k * 3, none⟩ (.int .i64 ((c0 + (N)) % l0)) = w2 at HTk HR2 HJ2 HS2 HC2
          obtain ⟨fq, hfq⟩ : ∃ fq, firesT rs N k = fq := ⟨_, rfl⟩
          have HQ := Lib.hid hfq
          rw [hfq] at HTk
          have hr := HF.out k hlt
          rw [hfq] at hr
          obtain ⟨f0, f1⟩ := hr
          generalize aheadT rs N k = ah at HKK
          clear r1 r2 HJk HR HPut hbk hp0 hfq
          gi_wp2
          refine ⟨trivial, fun _ => by omega, ?_⟩
          refine (callsIn_wide.2 HTk.out).mono ?_
          rintro e w2' ⟨rfl, rfl⟩
          clear g0 g1 g2 gz0 c1 c2 HTk
          by_cases hpos : 0 < firesT rs N k
          · skip
            obtain ⟨rest, hrest⟩ := xsT_at hlt hpos
            have HX1 := Lib.hid (xsT_yes hpos)
            obtain ⟨fn, tmps, assign, body, hy, hRd⟩ := HY.out (xsT rs N k) (k, firesT rs N k) rest _ hrest HJ2.out
            dsimp only [fireV] at hy
            rw [HQ.out] at hy
            have HRd := Lib.hid hRd
            have HQ1 := Lib.hid hpos
            rw [HQ.out] at hpos
            clear hRd hrest
            gi_wp2
            refine ⟨fun _ => by omega, ?_⟩
            refine HRd.out.mono ?_
            rintro e w3 ⟨rfl, hJ3, hb3⟩
            have HJ3 : Hid (J (xsT rs N (k + 1)) w3) := Lib.hid (by rw [HX1.out]; exact hJ3)
            have HR3 : Hid (OwnTimer w3 lo hi (some ⟨Bk, 0, none⟩) (tickR rs N (k + 1))) := Lib.hid (ownTimer_same HR2.out (hb3.block Bk (by have := HD.out; have := HS2.out; omega) (by have := HD.out; omega)))
            have HS3 : Hid (W0.heap.size ≤ w3.heap.size) := Lib.hid (Nat.le_trans HS2.out hb3.size)
            have HC3 : Hid (w3.cell? ⟨B1, 0, none⟩ = some (.slice (some ⟨Bk, 0, none⟩) 4 c) ∧ w3.cell? ⟨B2, 0, none⟩ = some (.int .i64 N)) := Lib.hid ⟨hb3.cell HC2.out.1 (by have := HD.out; simp only; omega), hb3.cell HC2.out.2 (by have := HD.out; simp only; omega)⟩
            clear hJ3 hb3 hy
            gi_wp2
            go_roundw
            case rel => exact ⟨k + 1, by omega, by go_num, by show _ = Value.int .i64 (firesT rs N k); rw [HQ.out], HJ3, HR3, HS3, HC3⟩
            case measure => simp [intOf]; omega
          · have HNP : Hid (firesT rs N k ≤ 0) := Lib.hid (Int.not_lt.1 hpos)
            rw [HQ.out] at hpos
            have HJ3 : Hid (J (xsT rs N (k + 1)) _) := Lib.hid (by rw [xsT_no HNP.out]; exact HJ2.out)
            clear HNP
            gi_wp2
            refine ⟨fun _ h => (by cases h), ?_⟩
            gi_wp2
            go_roundw
            case rel => exact ⟨k + 1, by omega, by go_num, by show _ = Value.int .i64 (firesT rs N k); rw [HQ.out], HJ3, HR2, HS2, HC2⟩
            case measure => simp [intOf]; omega
    · obtain rfl : k = 4 := by omega
      gi_wp2
      go_end0
      exact ⟨⟨_, rfl⟩, HJk.out, HR.out⟩
end Go.Proofs.Ytagdclbpgkilgaa
