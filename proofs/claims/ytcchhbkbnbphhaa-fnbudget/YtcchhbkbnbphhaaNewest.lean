/- The contract of Disk.newest and of impl.Newest. -/
import Derived.Test.YtcchhbkbnbphhaaReadSpec
import Derived.Test.YtcchhbkbnbphhaaM2
namespace Go.Proofs.Ytcchhbkbnbphhaa
open Go.RowKit

structure Best where
  g : Int
  z : List Int
  s : Int
  c : Int
def best (t : Nat → ByteArray) : Nat → Best
  | 0 => ⟨0, [], 0, 9⟩
  | k + 1 => if rdC (t k) = 0 ∧ (best t k).g < rdG (t k) then ⟨rdG (t k), rdZ (t k), k, 0⟩ else best t k

def GivesNew (b : Best) (w : World) (e : Ending) (w' : World) : Prop :=
  ∃ A n c, e = .returned (.tuple #[.agg #[.int .i64 b.g, .slice A n c], .int .i64 b.s, .int .i64 b.c]) ∧ Hid (b.z.length = n) ∧ Hid (OwnI w' w.heap.size w'.heap.size A b.z) ∧ Below w.heap.size w w'

theorem readS_small {ss : List ByteArray} {ws : List (Int × ByteArray)} (h : okDisk ss ws = true) (k : Nat) (hk : k < 48) : (readS ss ws k).size ≤ 100 := by
  unfold okDisk at h
  simp only [Bool.and_eq_true, decide_eq_true_eq, List.all_eq_true] at h
  obtain ⟨⟨h1, h2⟩, h3, h4⟩ := h
  have hd : ∀ m, m ≤ ws.length → ∀ s, down ws k m = some s → s.size ≤ 100 := by
    intro m
    induction m with
    | zero => intro _ s hs; cases hs
    | succ m ih =>
      intro hm s hs
      rw [down] at hs
      split at hs
      · injection hs with hs
        subst hs
        have hx := h4 (ws.getD m (0, ByteArray.empty)) (by rw [List.getD_eq_getElem?_getD, List.getElem?_eq_getElem (by omega)]; exact List.getElem_mem _)
        unfold okWr at hx
        simp only [Bool.and_eq_true, decide_eq_true_eq] at hx
        exact hx.2
      · exact ih (by omega) s hs
  unfold readS
  split
  · rename_i s hs
    exact hd _ (Nat.le_refl _) s hs
  · have hx := h3 (ss.getD k ByteArray.empty) (by rw [List.getD_eq_getElem?_getD, List.getElem?_eq_getElem (by omega)]; exact List.getElem_mem _)
    unfold okSt at hx
    simpa using hx

set_option maxRecDepth 100000 in
set_option maxHeartbeats 4000000 in
theorem newest (A C : Option Addr) (n c m d : Nat) (ss : List ByteArray) (ws : List (Int × ByteArray)) (w : World) (hl : ss.length = n) (hm : ws.length = m) (hok : okDisk ss ws = true) (h : StrL w A ss) (g : WrL w C ws) :
    Calls Try.prog 28 #[.agg #[.slice A n c, .slice C m d]] w (GivesNew (best (fun k => readS ss ws k) 2) w) := by
  have hlen := okDisk_len hok
  have HC := Lib.hid (fun W (hb : Below w.heap.size w W) (k : Nat) (hk : k < 2) => content A C n c m d ss ws k W hl hm (by unfold maxLen; omega) (by unfold maxLen; omega) (h.below hb) (g.below hb) (by omega))
  have HR := Lib.hid (fun W (k : Nat) (hk : k < 2) => implReadRoot (readS ss ws k) W (by have := readS_small hok k (by omega); unfold maxLen; omega))
  have HB := Lib.hid (show ∀ k : Nat, best (fun k => readS ss ws k) (k + 1) = if rdC (readS ss ws k) = 0 ∧ (best (fun k => readS ss ws k) k).g < rdG (readS ss ws k) then ⟨rdG (readS ss ws k), rdZ (readS ss ws k), k, 0⟩ else best (fun k => readS ss ws k) k from fun k => rfl)
  have HB0 := Lib.hid (show best (fun k => readS ss ws k) 0 = ⟨0, [], 0, 9⟩ from rfl)
  generalize best (fun k => readS ss ws k) = B at HB HB0
  clear hl hm hok h g hlen
  obtain ⟨W0, hW0⟩ : ∃ W0, W0 = ((w.alloc (.cells #[.slice A n c, .slice C m d] 26)).alloc (.cells #[.int .i64 0, .slice none 0 0] 31)).alloc (.cells #[.int .i64 0, .slice none 0 0] 31) := ⟨_, rfl⟩
  have hb0 : Below w.heap.size w W0 := by rw [hW0]; exact bt (bt (alloc_below _ _) (alloc_below _ _)) (alloc_below _ _)
  have X0 : Hid (Box W0 w.heap.size 26 #[.slice A n c, .slice C m d]) := Lib.hid (by rw [hW0]; exact ((Box.new _ _ _).alloc _).alloc _)
  have X1 : Hid (Box W0 (w.heap.size + 1) 31 #[.int .i64 0, .slice none 0 0]) := Lib.hid (by
    rw [hW0]; exact (by simpa using Box.new (w.alloc (.cells #[.slice A n c, .slice C m d] 26)) 31 #[.int .i64 0, .slice none 0 0] : Box ((w.alloc (.cells #[.slice A n c, .slice C m d] 26)).alloc (.cells #[.int .i64 0, .slice none 0 0] 31)) (w.heap.size + 1) 31 #[.int .i64 0, .slice none 0 0]).alloc _)
  have X2 : Hid (Box W0 (w.heap.size + 1 + 1) 31 #[.int .i64 0, .slice none 0 0]) := Lib.hid (by
    rw [hW0]; simpa using Box.new ((w.alloc (.cells #[.slice A n c, .slice C m d] 26)).alloc (.cells #[.int .i64 0, .slice none 0 0] 31)) 31 #[.int .i64 0, .slice none 0 0])
  have HW0 := Lib.hid hW0
  clear hW0
  go_enter Try.func28, Try.ntmps28
  go_wp2
  rw [← HW0.out]
  clear HW0
  go_loopw [12, 6, 7] (fun i s q wr => ∃ (k : Nat) (A' : Option Addr) (n' c' : Nat), k ≤ 2 ∧ i = .int .i64 k ∧ s = .int .i64 (B k).s ∧ q = .int .i64 (B k).c ∧ Below w.heap.size w wr ∧ Hid (Box wr w.heap.size 26 #[.slice A n c, .slice C m d]) ∧ Hid (Box wr (w.heap.size + 1) 31 #[.int .i64 0, .slice none 0 0]) ∧ Hid (Box wr (w.heap.size + 1 + 1) 31 #[.int .i64 (B k).g, .slice A' n' c']) ∧ Hid ((B k).z.length = n') ∧ Hid (OwnI wr w.heap.size wr.heap.size A' (B k).z)) (fun i _ _ _ => 2 - (intOf i).toNat)
  case atStart => exact ⟨0, none, 0, 0, by omega, rfl, by rw [HB0.out], by rw [HB0.out], hb0, X0, X1, by rw [HB0.out]; exact X2, by rw [HB0.out]; exact Lib.hid rfl, by rw [HB0.out]; exact Lib.hid (.inl rfl)⟩
  case round =>
    clear X0 X1 X2 hb0
    obtain ⟨k, A', n', c', hk, rfl, rfl, rfl, hbw, X0, X1, X2, LB, OB⟩ := hrel
    have hB := HB.out k
    generalize hbk : B k = bk at X2 LB OB hB
    have HBk := Lib.hid hbk
    clear hbk
    by_cases hlt : k < 2
    · have f0 := X0.out.cell 0 rfl
      have f1 := X0.out.cell 1 rfl
      have hi : (k : Int) < 2 := by omega
      have HBS := Lib.hid hB
      clear hB
      go_wp2_with fail
      refine (HC.out wr hbw k hlt).mono ?_
      rintro e w1 ⟨rfl, hb1⟩
      clear f0 f1
      have HRk := Lib.hid (HR.out w1 k hlt)
      generalize rdG (readS ss ws k) = rg at HRk HBS
      generalize rdZ (readS ss ws k) = rz at HRk HBS
      generalize rdC (readS ss ws k) = rc at HRk HBS
      go_wp2_with fail
      refine HRk.out.mono ?_
      rintro e w2 ⟨A2, n2, c2, rfl, L2, O2, hb2⟩
      have hb3 := bt (bt hb1 hb2) (alloc_below w2 (.cells #[.int .i64 rg, .slice A2 n2 c2] 31))
      have Y0 := Lib.hid (X0.out.step hb3)
      have Y1 := Lib.hid (X1.out.step hb3)
      have Y2 := Lib.hid (X2.out.step hb3)
      have Y3 := Lib.hid (Box.new w2 31 #[.int .i64 rg, .slice A2 n2 c2])
      have OB3 := Lib.hid (OB.out.below hb3)
      have O3 := Lib.hid (O2.out.below (alloc_below w2 (.cells #[.int .i64 rg, .slice A2 n2 c2] 31)))
      have HZ : Hid (wr.heap.size ≤ w1.heap.size ∧ w1.heap.size ≤ w2.heap.size ∧ w2.heap.size < (w2.alloc (.cells #[.int .i64 rg, .slice A2 n2 c2] 31)).heap.size ∧ w.heap.size + 1 + 1 < wr.heap.size) := Lib.hid ⟨hb1.size, hb2.size, Y3.out.lt, X2.out.lt⟩
      have hbz := bt hbw hb3
      have y0 := Y2.out.cell 0 rfl
      have y1 := Y2.out.cell 1 rfl
      have y2 := Y2.out.frozen 0
      have y3 := Y2.out.frozen 1
      by_cases hc : rc = 0
      · have hcb : (rc == 0) = true := by simp [hc]
        by_cases hg : bk.g < rg
        · have HS : Hid (B (k + 1) = ⟨rg, rz, k, 0⟩) := Lib.hid (by rw [HBS.out, if_pos ⟨hc, hg⟩])
          clear hc hb1 hb2 hb3
          go_wp2
          go_roundw
          case rel =>
            have hsz := HZ.out
            refine ⟨k + 1, A2, n2, c2, by omega, by go_num, by rw [HS.out], by rw [HS.out], below_st2 hbz (by omega) _ _, Lib.hid ((Y0.out.far (by show w.heap.size ≠ w.heap.size + 1 + 1; omega) _).far (by show w.heap.size ≠ w.heap.size + 1 + 1; omega) _), Lib.hid ((Y1.out.far (by show w.heap.size + 1 ≠ w.heap.size + 1 + 1; omega) _).far (by show w.heap.size + 1 ≠ w.heap.size + 1 + 1; omega) _), ?_, by rw [HS.out]; exact L2, ?_⟩
            · rw [HS.out]; exact Lib.hid ((Y2.out.set 0 _).set 1 _)
            · rw [HS.out]; exact Lib.hid (((O3.out.wide (lo' := w.heap.size) (hi' := (w2.alloc (.cells #[.int .i64 rg, .slice A2 n2 c2] 31)).heap.size) (by omega) (by omega)).two Y2.out (by decide) _ _).wide (Nat.le_refl _) (by simp [World.setCell]))
          case measure => simp [intOf]; omega
        · have HS : Hid (B (k + 1) = bk) := Lib.hid (by rw [HBS.out, if_neg (fun q => hg q.2)])
          have hg' : ¬ bk.g < rg := hg
          clear hc hb1 hb2 hb3
          go_wp2
          go_roundw
          case rel => exact ⟨k + 1, A', n', c', by omega, by go_num, by rw [HS.out], by rw [HS.out], hbz, Y0, Y1, by rw [HS.out]; exact Y2, by rw [HS.out]; exact LB, by rw [HS.out]; exact Lib.hid (OB3.out.wide (hi' := (w2.alloc (.cells #[.int .i64 rg, .slice A2 n2 c2] 31)).heap.size) (Nat.le_refl _) (by have := HZ.out; omega))⟩
          case measure => simp [intOf]; omega
      · have hcb : (rc == 0) = false := by simp [hc]
        have HS : Hid (B (k + 1) = bk) := Lib.hid (by rw [HBS.out, if_neg (fun q => hc q.1)])
        clear hc hb1 hb2 hb3
        go_wp2
        go_roundw
        case rel => exact ⟨k + 1, A', n', c', by omega, by go_num, by rw [HS.out], by rw [HS.out], hbz, Y0, Y1, by rw [HS.out]; exact Y2, by rw [HS.out]; exact LB, by rw [HS.out]; exact Lib.hid (OB3.out.wide (hi' := (w2.alloc (.cells #[.int .i64 rg, .slice A2 n2 c2] 31)).heap.size) (Nat.le_refl _) (by have := HZ.out; omega))⟩
        case measure => simp [intOf]; omega
    · obtain rfl : k = 2 := by omega
      clear hB
      have y0 := X2.out.cell 0 rfl
      have y1 := X2.out.cell 1 rfl
      have y2 := X1.out.cell 0 rfl
      have y3 := X1.out.cell 1 rfl
      have y4 := X1.out.frozen 0
      have y5 := X1.out.frozen 1
      go_wp2
      refine bodyPost_ret (v := .tuple #[.agg #[.int .i64 bk.g, .slice A' n' c'], .int .i64 bk.s, .int .i64 bk.c]) (by simp [results, Try.results28, go_sem, y2, y3]) rfl ?_
      rw [HBk.out]
      exact ⟨_, _, _, rfl, LB, Lib.hid ((OB.out.two X1.out (by decide) _ _).wide (Nat.le_refl _) (by simp [World.setCell])), below_st2 hbw (by omega) _ _⟩

def newOf (ss : List ByteArray) (ws : List (Int × ByteArray)) : Best := if okDisk ss ws = true then best (fun k => readS ss ws k) 2 else ⟨0, [], 0, 1⟩

theorem givesN_none {w w' : World} {s code : Int} (h : Below w.heap.size w w') : GivesNew ⟨0, [], s, code⟩ w (.returned (.tuple #[.agg #[.int .i64 0, .slice none 0 0], .int .i64 s, .int .i64 code])) w' :=
  ⟨_, _, _, rfl, Lib.hid rfl, Lib.hid (.inl rfl), h⟩

set_option maxRecDepth 100000 in
set_option maxHeartbeats 2000000 in
theorem implNewest (A C : Option Addr) (n c m d : Nat) (ss : List ByteArray) (ws : List (Int × ByteArray)) (w : World) (hl : ss.length = n) (hm : ws.length = m) (hn : n ≤ maxLen) (hmm : m ≤ maxLen) (h : StrL w A ss) (g : WrL w C ws) (fs : FitS ss) (fw : FitW ws) :
    Calls Try.prog 9 #[.agg #[.slice A n c, .slice C m d]] w (GivesNew (newOf ss ws) w) := by
  obtain ⟨W0, hW0⟩ : ∃ W0, W0 = (w.alloc (.cells #[.slice A n c, .slice C m d] 26)).alloc (.cells #[.int .i64 0, .slice none 0 0] 31) := ⟨_, rfl⟩
  have hb0 : Below w.heap.size w W0 := by rw [hW0]; exact bt (alloc_below _ _) (alloc_below _ _)
  have X0 : Hid (Box W0 w.heap.size 26 #[.slice A n c, .slice C m d]) := Lib.hid (by rw [hW0]; exact (Box.new _ _ _).alloc _)
  have X1 : Hid (Box W0 (w.heap.size + 1) 31 #[.int .i64 0, .slice none 0 0]) := Lib.hid (by
    rw [hW0]; simpa using Box.new (w.alloc (.cells #[.slice A n c, .slice C m d] 26)) 31 #[.int .i64 0, .slice none 0 0])
  have HV := Lib.hid (diskValid A C n c m d ss ws W0 hl hm hn hmm (h.below hb0) (g.below hb0) fs fw)
  have HN := Lib.hid (fun W (hb : Below w.heap.size w W) (hok : okDisk ss ws = true) => newest A C n c m d ss ws W hl hm hok (h.below hb) (g.below hb))
  have HW0 := Lib.hid hW0
  clear hl hm hn hmm h g fs fw hW0
  by_cases hok : okDisk ss ws = true
  · have HO : Hid (newOf ss ws = best (fun k => readS ss ws k) 2) := Lib.hid (by unfold newOf; rw [if_pos hok])
    rw [hok] at HV
    have HNk := Lib.hid (fun W hb => HN.out W hb hok)
    generalize best (fun k => readS ss ws k) 2 = b at HO HNk
    rw [HO.out]
    clear hok HN HO
    go_enter Try.func9, Try.ntmps9
    go_wp2_with fail
    rw [← HW0.out]
    clear HW0
    refine HV.out.mono ?_
    rintro e w1 ⟨rfl, hb1⟩
    have Y0 := X0.out.step hb1
    have f0 := Y0.cell 0 rfl
    have f1 := Y0.cell 1 rfl
    have hb2 := bt hb0 hb1
    clear Y0
    go_wp2_with fail
    refine (HNk.out w1 hb2).mono ?_
    rintro e w2 ⟨A2, n2, c2, rfl, L2, O2, hb3⟩
    have Y1 := Lib.hid ((X1.out.step hb1).step hb3)
    have HZ : Hid (w.heap.size ≤ w1.heap.size) := Lib.hid hb2.size
    have hb4 := bt hb2 hb3
    have y2 := Y1.out.cell 0 rfl
    have y3 := Y1.out.cell 1 rfl
    have y4 := Y1.out.frozen 0
    have y5 := Y1.out.frozen 1
    clear f0 f1 hb1 hb3
    go_wp2
    refine bodyPost_ret (v := .tuple #[.agg #[.int .i64 b.g, .slice A2 n2 c2], .int .i64 b.s, .int .i64 b.c]) (by simp [results, Try.results9, go_sem, y2, y3]) rfl ?_
    exact ⟨_, _, _, rfl, L2, Lib.hid (((O2.out.wide HZ.out (Nat.le_refl _)).two Y1.out (by decide) _ _).wide (Nat.le_refl _) (by simp [World.setCell])), below_st2 hb4 (by omega) _ _⟩
  · have hok' : okDisk ss ws = false := by simpa using hok
    have HO : Hid (newOf ss ws = ⟨0, [], 0, 1⟩) := Lib.hid (by unfold newOf; rw [if_neg hok])
    rw [hok'] at HV
    rw [HO.out]
    clear hok hok' HN HO
    go_enter Try.func9, Try.ntmps9
    go_wp2_with fail
    rw [← HW0.out]
    clear HW0
    refine HV.out.mono ?_
    rintro e w1 ⟨rfl, hb1⟩
    have Y1 := X1.out.step hb1
    have hb2 := bt hb0 hb1
    have y2 := Y1.cell 0 rfl
    have y3 := Y1.cell 1 rfl
    have y4 := Y1.frozen 0
    have y5 := Y1.frozen 1
    clear Y1 hb1
    go_wp2
    refine bodyPost_ret (v := .tuple #[.agg #[.int .i64 0, .slice none 0 0], .int .i64 0, .int .i64 1]) (by simp [results, Try.results9, go_sem, y2, y3]) rfl ?_
    exact givesN_none (below_st2 hb2 (by omega) _ _)

/- The model's way to the newest root. -/
theorem gen_pos {l : List UInt8} (h : rdB l = true) : 0 < okG l := by
  have h' := h
  unfold rdB at h
  simp only [Bool.and_eq_true] at h
  have hr := h.2.2.2
  unfold rootB at hr
  simp only [Bool.and_eq_true, decide_eq_true_eq] at hr
  unfold okG
  rw [if_pos h']
  omega
theorem best_two (t : Nat → ByteArray) (h0 : (t 0).size ≤ 100) (h1 : (t 1).size ≤ 100) :
    best t 2 = if rdB (t 0).data.toList = true ∧ (rdB (t 1).data.toList = false ∨ okG (t 1).data.toList ≤ okG (t 0).data.toList) then ⟨okG (t 0).data.toList, okZ (t 0).data.toList, 0, 0⟩
      else if rdB (t 1).data.toList = true then ⟨okG (t 1).data.toList, okZ (t 1).data.toList, 1, 0⟩ else ⟨0, [], 0, 9⟩ := by
  have r0 := rd_ok (t 0) (by omega)
  have r1 := rd_ok (t 1) (by omega)
  show (if rdC (t 1) = 0 ∧ (if rdC (t 0) = 0 ∧ (0 : Int) < rdG (t 0) then (⟨rdG (t 0), rdZ (t 0), 0, 0⟩ : Best) else ⟨0, [], 0, 9⟩).g < rdG (t 1) then (⟨rdG (t 1), rdZ (t 1), 1, 0⟩ : Best) else (if rdC (t 0) = 0 ∧ (0 : Int) < rdG (t 0) then ⟨rdG (t 0), rdZ (t 0), 0, 0⟩ else ⟨0, [], 0, 9⟩)) = _
  rw [r0.1, r0.2.1, r0.2.2, r1.1, r1.2.1, r1.2.2]
  cases q0 : rdB (t 0).data.toList <;> cases q1 : rdB (t 1).data.toList
  · simp
  · have := gen_pos q1; simp [this]
  · have := gen_pos q0; simp [this]
  · have p0 := gen_pos q0
    have p1 := gen_pos q1
    by_cases hq : okG (t 1).data.toList ≤ okG (t 0).data.toList
    · simp [p0, hq]
    · simp [p0, hq]
end Go.Proofs.Ytcchhbkbnbphhaa
