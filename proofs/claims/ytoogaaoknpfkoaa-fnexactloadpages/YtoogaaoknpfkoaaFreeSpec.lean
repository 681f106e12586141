/- Contracts of l02Free and of both FreeSectors. -/
import Derived.Test.YtoogaaoknpfkoaaFree
import Derived.Test.YtoogaaoknpfkoaaNewestSpec
namespace Go.Proofs.Ytoogaaoknpfkoaa
open Go.RowKit

set_option maxRecDepth 100000 in
set_option maxHeartbeats 2000000 in
theorem l02Free (g : Int) (A : Option Addr) (n c : Nat) (zs : List Int) (w : World) (hl : zs.length = n) (hn : n ≤ maxLen) (h : IntL w A zs) :
    Calls Try.prog 117 #[.agg #[.int .i64 g, .slice A n c]] w (GivesInts (freeL zs) w) := by
  have HIn := Lib.hid (fun W (hb : Below w.heap.size w W) z => l02In A n c zs z W hl hn (h.below hb))
  obtain ⟨W0, hW0⟩ : ∃ W0, W0 = (w.alloc (.cells #[.int .i64 g, .slice A n c] 57)).alloc (.cells #[] 3) := ⟨_, rfl⟩
  have hb0 : Below w.heap.size w W0 := by rw [hW0]; exact bt (alloc_below _ _) (alloc_below _ _)
  have X0 : Hid (Box W0 w.heap.size 57 #[.int .i64 g, .slice A n c]) := Lib.hid (by rw [hW0]; exact (Box.new _ _ _).alloc _)
  have X1 : Hid (Box W0 (w.heap.size + 1) 3 #[]) := Lib.hid (by rw [hW0]; simpa using Box.new (w.alloc (.cells #[.int .i64 g, .slice A n c] 57)) 3 #[])
  have hs0 : w.heap.size + 1 ≤ W0.heap.size := by have := X1.out.lt; omega
  have HW0 := Lib.hid hW0
  clear hl hn h hW0
  go_enter Try.func117, Try.ntmps117
  go_wp2
  rw [← HW0.out]
  clear HW0
  go_loopw [4, 3] (fun i v wr => ∃ (j : Nat) (A' : Option Addr) (l c' : Nat), j ≤ 46 ∧ i = .int .i64 ((j + 2 : Nat) : Int) ∧ v = .slice A' l c' ∧ Hid ((frN zs j).length = l) ∧ l ≤ 46 ∧ Below w.heap.size w wr ∧ Hid (GroI wr (w.heap.size + 1) (.slice A' l c') (frN zs j)) ∧ Hid (Box wr w.heap.size 57 #[.int .i64 g, .slice A n c]) ∧ w.heap.size + 1 ≤ wr.heap.size) (fun i _ _ => 48 - (intOf i).toNat)
  case atStart => exact ⟨0, _, 0, 0, by omega, rfl, rfl, Lib.hid rfl, by omega, hb0, Lib.hid (rowv_empty (Nat.le_refl _) X1.out), X0, hs0⟩
  case round =>
    clear hb0 X0 X1 hs0
    obtain ⟨j, A', l, c', hj, rfl, rfl, HLl, hl46, hbw, HG, X0, hsz⟩ := hrel
    have f1 := X0.out.cell 1 rfl
    by_cases hlt : j < 46
    · have hi : ((j + 2 : Nat) : Int) < 48 := by omega
      have HI := Lib.hid (HIn.out wr hbw ((j + 2 : Nat) : Int))
      by_cases hM : ((j + 2 : Nat) : Int) ∈ zs
      · have HF := Lib.hid (frN_in zs j hM)
        rw [show decide (((j + 2 : Nat) : Int) ∈ zs) = true from decide_eq_true hM] at HI
        clear hM
        generalize hz : j + 2 = z at HI hi
        have HZ := Lib.hid hz
        have hz1 : z ≤ 1000 := by omega
        clear hz
        go_wp2_with fail
        refine HI.out.mono ?_
        rintro e w' ⟨rfl, rfl⟩
        go_wp2
        go_roundw
        case rel => exact ⟨j + 1, A', l, c', by omega, by have := HZ.out; congr 1; omega, rfl, by rw [HF.out]; exact HLl, hl46, hbw, by rw [HF.out]; exact HG, X0, hsz⟩
        case measure => simp [intOf]; omega
      · have HF := Lib.hid (frN_out zs j hM)
        have HLn := Lib.hid (frN_len zs (j + 1))
        rw [show decide (((j + 2 : Nat) : Int) ∈ zs) = false from decide_eq_false hM] at HI
        clear hM
        generalize hz : j + 2 = z at HI hi HF
        have HZ := Lib.hid hz
        have hz1 : z ≤ 1000 := by omega
        have HRk : Hid (wr.ownsRow (w.heap.size + 1) 3 1 (.slice A' l c') l ((frN zs j).map (Value.int .i64))) := Lib.hid (by have := HG.out; unfold GroI at this; rwa [HLl.out] at this)
        generalize frN zs j = fl at HRk HF HLl
        clear hz HG
        have HBa : Hid (Below wr.heap.size wr (wr.alloc (.cells #[.int .i64 (z : Int)] 3))) := Lib.hid (alloc_below _ _)
        have HOw := Lib.hid (rowv_below HRk.out HBa.out)
        have HNw : Hid (∀ i u, [Value.int .i64 (z : Int)][i]? = some u → (wr.alloc (.cells #[.int .i64 (z : Int)] 3)).cell? ⟨wr.heap.size, i, none⟩ = some u) := Lib.hid (fun i u hi => by
          match i, hi with
          | 0, hi => simp at hi; subst hi; exact (Box.new wr 3 #[.int .i64 (z : Int)]).cell 0 rfl)
        go_wp2_with fail
        refine HI.out.mono ?_
        rintro e w' ⟨rfl, rfl⟩
        go_wp2_with (at_builtin; refine wpList_app_one rfl (.tmp 15) (.tmp 17) 36 3 rfl (.int .i64 0) 1 8 elemInt Try.underlying36 (w.heap.size + 1) (.slice A' l c') l (fl.map (Value.int .i64)) rfl ?hown wr.heap.size 1 rfl [.int .i64 (z : Int)] rfl ?hnews ?hone ?h63 ?hby ?hbase ?_)
        case hown => exact HOw.out
        case hnews => exact HNw.out
        case hone => intro u hu; simp at hu; subst hu; rfl
        case h63 => unfold maxLen; omega
        case hby => omega
        case hbase => simp; omega
        intro A2 c2 w2 hR2 hc2 hg2 hb2
        have HR2 := Lib.hid hR2
        have X2 := Lib.hid ((X0.out.step HBa.out).below hb2 (by omega))
        have hbz : Below w.heap.size w w2 := (bt hbw HBa.out).trans (hb2.mono (by omega))
        have hs2 : w.heap.size + 1 ≤ w2.heap.size := Nat.le_trans (Nat.le_trans hsz HBa.out.size) hb2.size
        clear hR2 hb2 hg2 f1
        go_wp2
        go_roundw
        case rel =>
          refine ⟨j + 1, A2, l + 1, c2, by omega, by have := HZ.out; congr 1; omega, rfl, Lib.hid (by rw [HF.out, List.length_append, HLl.out]; rfl), ?_, hbz, Lib.hid ?_, X2, hs2⟩
          · have := HLn.out; rw [HF.out, List.length_append, HLl.out] at this; simp at this; omega
          · unfold GroI; rw [HF.out, List.length_append, HLl.out, List.map_append]; exact HR2.out
        case measure => simp [intOf]; omega
    · obtain rfl : j = 46 := by omega
      go_wp2
      refine bodyPost_ret (v := .slice A' l c') (by simp [results, Try.results117, go_sem]) rfl ?_
      exact ⟨_, _, _, rfl, HLl, Lib.hid (HG.out.own (by omega)), hbw⟩

/-- The call hands back a []int of its own, and a code. -/
def GivesIntsCode (b : List Int × Int) (w : World) (e : Ending) (w' : World) : Prop :=
  ∃ A n c, e = .returned (.tuple #[.slice A n c, .int .i64 b.2]) ∧ Hid (b.1.length = n) ∧ Hid (OwnI w' w.heap.size w'.heap.size A b.1) ∧ Below w.heap.size w w'
/-- What FreeSectors answers. -/
def freeOf (ss : List ByteArray) (ws : List (Int × ByteArray)) : List Int × Int := if (newOf ss ws).c = 0 then (freeL (newOf ss ws).z, 0) else ([], (newOf ss ws).c)
theorem freeOf_len (ss : List ByteArray) (ws : List (Int × ByteArray)) : (freeOf ss ws).1.length ≤ 46 := by
  unfold freeOf
  split
  · exact frN_len _ 46
  · simp

set_option maxRecDepth 100000 in
set_option maxHeartbeats 2000000 in
theorem implFree (A C : Option Addr) (n c m d : Nat) (ss : List ByteArray) (ws : List (Int × ByteArray)) (w : World) (hl : ss.length = n) (hm : ws.length = m) (hn : n ≤ maxLen) (hmm : m ≤ maxLen) (h : StrL w A ss) (g : WrL w C ws) (fs : FitS ss) (fw : FitW ws) :
    Calls Try.prog 65 #[.agg #[.slice A n c, .slice C m d]] w (GivesIntsCode (freeOf ss ws) w) := by
  have hb0 := alloc_below w (.cells #[.slice A n c, .slice C m d] 26)
  have HN := Lib.hid (implNewest A C n c m d ss ws _ hl hm hn hmm (h.below hb0) (g.below hb0) fs fw)
  have HF := Lib.hid (show freeOf ss ws = if (newOf ss ws).c = 0 then (freeL (newOf ss ws).z, 0) else ([], (newOf ss ws).c) from rfl)
  have HLz := Lib.hid (newOf_len ss ws)
  generalize newOf ss ws = b at HN HF HLz
  generalize freeOf ss ws = r at HF
  clear hl hm hn hmm h g fs fw
  go_enter Try.func65, Try.ntmps65
  go_wp2_with fail
  refine HN.out.mono ?_
  rintro e w1 ⟨A1, n1, c1, rfl, L1, O1, hb1⟩
  have hb := bt hb0 hb1
  have hb2 := bt hb (alloc_below w1 (.cells #[.int .i64 b.g, .slice A1 n1 c1] 57))
  have X1 := Lib.hid (Box.new w1 57 #[.int .i64 b.g, .slice A1 n1 c1])
  have O2 := Lib.hid (O1.out.below (alloc_below w1 (.cells #[.int .i64 b.g, .slice A1 n1 c1] 57)))
  by_cases hc : b.c = 0
  · have hcb : (b.c != 0) = false := by simp [hc]
    have HR : Hid (r = (freeL b.z, 0)) := Lib.hid (by rw [HF.out, if_pos hc])
    have HFr := Lib.hid (rootFree b.g A1 n1 c1 b.z _ L1.out (by have := HLz.out; have := L1.out; unfold maxLen; omega) O2.out.reads)
    generalize freeL b.z = fz at HR HFr
    have hc' : b.c = 0 := hc
    clear hc hb0 hb1 hb
    go_wp2_with fail
    refine HFr.out.mono ?_
    rintro e w3 ⟨A3, n3, c3, rfl, L3, O3, hb3⟩
    have HZ : Hid (w.heap.size ≤ (w1.alloc (.cells #[.int .i64 b.g, .slice A1 n1 c1] 57)).heap.size) := Lib.hid hb2.size
    go_wp2
    refine bodyPost_ret (v := .tuple #[.slice A3 n3 c3, .int .i64 0]) (by simp [results, Try.results65, go_sem]) rfl ?_
    rw [HR.out]
    exact ⟨_, _, _, rfl, L3, Lib.hid (O3.out.wide HZ.out (Nat.le_refl _)), bt hb2 hb3⟩
  · have hcb : (b.c != 0) = true := by simp [hc]
    have HR : Hid (r = ([], b.c)) := Lib.hid (by rw [HF.out, if_neg hc])
    clear hc hb0 hb1 hb
    go_wp2
    refine bodyPost_ret (v := .tuple #[.slice none 0 0, .int .i64 b.c]) (by simp [results, Try.results65, go_sem]) rfl ?_
    rw [HR.out]
    exact ⟨_, _, _, rfl, Lib.hid rfl, Lib.hid (.inl rfl), hb2⟩

theorem newOf_cases (ss : List ByteArray) (ws : List (Int × ByteArray)) : (okDisk ss ws = false ∧ newOf ss ws = ⟨0, [], 0, 1⟩) ∨
    (okDisk ss ws = true ∧ newOf ss ws = best (fun k => readS ss ws k) 2 ∧ ((newOf ss ws).c = 0 ∧ 0 ≤ (newOf ss ws).s ∧ slotOf (newOf ss ws) = (newOf ss ws).s ∨ newOf ss ws = ⟨0, [], 0, 9⟩ ∧ slotOf (newOf ss ws) = -1)) := by
  by_cases hok : okDisk ss ws = true
  · right
    have e : newOf ss ws = best (fun k => readS ss ws k) 2 := by unfold newOf; rw [if_pos hok]
    refine ⟨hok, e, ?_⟩
    rw [e]
    rcases best_code (fun k => readS ss ws k) (readS_small hok 0 (by omega)) (readS_small hok 1 (by omega)) with ⟨h1, h2⟩ | h
    · exact .inl ⟨h1, h2, by unfold slotOf; rw [if_pos h1]⟩
    · exact .inr ⟨h, by rw [h]; rfl⟩
  · left
    exact ⟨by simpa using hok, by unfold newOf; rw [if_neg hok]⟩

set_option maxRecDepth 100000 in
set_option maxHeartbeats 2000000 in
theorem specFree (A C : Option Addr) (n c m d : Nat) (ss : List ByteArray) (ws : List (Int × ByteArray)) (w : World) (hl : ss.length = n) (hm : ws.length = m) (hn : n ≤ maxLen) (hmm : m ≤ maxLen) (h : StrL w A ss) (g : WrL w C ws) (fs : FitS ss) (fw : FitW ws) :
    Calls Try.prog 64 #[.agg #[.slice A n c, .slice C m d]] w (GivesIntsCode (freeOf ss ws) w) := by
  have hb0 := alloc_below w (.cells #[.slice A n c, .slice C m d] 26)
  have X0 := Lib.hid (Box.new w 26 #[.slice A n c, .slice C m d])
  have HV := Lib.hid (specDiskOK A C n c m d ss ws _ hl hm hn hmm (h.below hb0) (g.below hb0) fs fw)
  have HN := Lib.hid (fun W (hb : Below w.heap.size w W) (hok : okDisk ss ws = true) => l02Newest A C n c m d ss ws W hl hm hok (h.below hb) (g.below hb))
  have HF := Lib.hid (show freeOf ss ws = if (newOf ss ws).c = 0 then (freeL (newOf ss ws).z, 0) else ([], (newOf ss ws).c) from rfl)
  have HLz := Lib.hid (newOf_len ss ws)
  have hcase := newOf_cases ss ws
  generalize freeOf ss ws = r at HF
  clear hl hm hn hmm h g fs fw
  rcases hcase with ⟨hok, hnew⟩ | ⟨hok, hnew, hcode⟩
  · rw [hok] at HV
    have HR : Hid (r = ([], 1)) := Lib.hid (by rw [HF.out, hnew]; rfl)
    clear hok hnew HN HF HLz
    go_enter Try.func64, Try.ntmps64
    go_wp2_with fail
    refine HV.out.mono ?_
    rintro e w1 ⟨rfl, hb1⟩
    go_wp2
    refine bodyPost_ret (v := .tuple #[.slice (some ⟨w1.heap.size, 0, none⟩) 0 0, .int .i64 1]) (by simp [results, Try.results64, go_sem]) rfl ?_
    rw [HR.out]
    exact ⟨_, _, _, rfl, Lib.hid rfl, Lib.hid (.inl rfl), bt (bt hb0 hb1) (alloc_below _ _)⟩
  · rw [hok] at HV
    have HNk := Lib.hid (fun W hb => HN.out W hb hok)
    rw [← hnew] at HNk
    generalize newOf ss ws = b at HF HLz hcode HNk
    have HCo := Lib.hid hcode
    clear hok hnew HN hcode
    go_enter Try.func64, Try.ntmps64
    go_wp2_with fail
    refine HV.out.mono ?_
    rintro e w1 ⟨rfl, hb1⟩
    have Y0 := X0.out.step hb1
    have f0 := Y0.cell 0 rfl
    have f1 := Y0.cell 1 rfl
    have hb := bt hb0 hb1
    clear Y0 hb0 hb1
    go_wp2_with fail
    refine (HNk.out w1 hb).mono ?_
    rintro e w2 ⟨A2, n2, c2, rfl, L2, O2, hb2⟩
    have hb3 := bt (bt hb hb2) (alloc_below w2 (.cells #[.int .i64 b.g, .slice A2 n2 c2] 57))
    have O3 := Lib.hid (O2.out.below (alloc_below w2 (.cells #[.int .i64 b.g, .slice A2 n2 c2] 57)))
    clear f0 f1 hb hb2 HNk
    rcases HCo.out with ⟨hc, hs, hsl⟩ | ⟨hbz, hsl⟩
    · have hs' : ¬ slotOf b < 0 := by rw [hsl]; omega
      have HR : Hid (r = (freeL b.z, 0)) := Lib.hid (by rw [HF.out, if_pos hc])
      have HFr := Lib.hid (l02Free b.g A2 n2 c2 b.z _ L2.out (by have := HLz.out; have := L2.out; unfold maxLen; omega) O3.out.reads)
      generalize freeL b.z = fz at HR HFr
      have HZ : Hid (w.heap.size ≤ (w2.alloc (.cells #[.int .i64 b.g, .slice A2 n2 c2] 57)).heap.size) := Lib.hid hb3.size
      generalize slotOf b = sl at hs' 
      clear hc hs hsl HF
      go_wp2_with fail
      refine HFr.out.mono ?_
      rintro e w4 ⟨A4, n4, c4, rfl, L4, O4, hb4⟩
      go_wp2
      refine bodyPost_ret (v := .tuple #[.slice A4 n4 c4, .int .i64 0]) (by simp [results, Try.results64, go_sem]) rfl ?_
      rw [HR.out]
      exact ⟨_, _, _, rfl, L4, Lib.hid (O4.out.wide HZ.out (Nat.le_refl _)), bt hb3 hb4⟩
    · have hs' : slotOf b < 0 := by rw [hsl]; omega
      have HR : Hid (r = ([], 9)) := Lib.hid (by rw [HF.out, hbz]; rfl)
      generalize slotOf b = sl at hs' hsl
      clear hbz hsl HF
      go_wp2
      refine bodyPost_ret (v := .tuple #[.slice (some ⟨w2.heap.size + 1, 0, none⟩) 0 0, .int .i64 9]) (by simp [results, Try.results64, go_sem]) rfl ?_
      rw [HR.out]
      exact ⟨_, _, _, rfl, Lib.hid rfl, Lib.hid (.inl rfl), bt hb3 (alloc_below _ _)⟩
end Go.Proofs.Ytoogaaoknpfkoaa
