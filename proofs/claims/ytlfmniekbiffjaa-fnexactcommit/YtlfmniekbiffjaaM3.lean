/- Texts of this claim, one behind the other: NewestSpec, FreeSpec, LoadSpec, DigWalk, RootTextSpec, PlanFacts, Pages, Ask, Settle, Flush, Crash, FlushDisk, CrashDisk. -/
import Derived.Deep.RegionHeld3
import Derived.Laws.IdiomStrings
import Derived.Deep.DrawnRows
import Derived.IntWalk
import Derived.Laws.CopyOwn
import Derived.OwnWalk
import Derived.Laws.OwnMore
import Derived.WalkLawsBesides
import Derived.Test.YtlfmniekbiffjaaM2
/- The contracts of spec.l02Newest and spec.Newest. -/
namespace Go.Proofs.Ytlfmniekbiffjaa
open Go.RowKit

/-- The slot of a best root in the model's way: -1 of none. -/
def slotOf (b : Best) : Int := if b.c = 0 then b.s else -1
def GivesSlot (b : Best) (w : World) (e : Ending) (w' : World) : Prop :=
  ∃ A n c, e = .returned (.tuple #[.agg #[.int .i64 b.g, .slice A n c], .int .i64 (slotOf b)]) ∧ Hid (b.z.length = n) ∧ Hid (OwnI w' w.heap.size w'.heap.size A b.z) ∧ Below w.heap.size w w'

set_option maxRecDepth 100000 in
set_option maxHeartbeats 4000000 in
theorem l02Newest (A C : Option Addr) (n c m d : Nat) (ss : List ByteArray) (ws : List (Int × ByteArray)) (w : World) (hl : ss.length = n) (hm : ws.length = m) (hok : okDisk ss ws = true) (h : StrL w A ss) (g : WrL w C ws) :
    Calls Try.prog 68 #[.agg #[.slice A n c, .slice C m d]] w (GivesSlot (best (fun k => readS ss ws k) 2) w) := by
  have hlen := okDisk_len hok
  have HC0 := Lib.hid (fun W (hb : Below w.heap.size w W) => l01Read A C n c m d ss ws 0 W hl hm (by unfold maxLen; omega) (by unfold maxLen; omega) (h.below hb) (g.below hb) (by omega))
  have HC1 := Lib.hid (fun W (hb : Below w.heap.size w W) => l01Read A C n c m d ss ws 1 W hl hm (by unfold maxLen; omega) (by unfold maxLen; omega) (h.below hb) (g.below hb) (by omega))
  have s0 := readS_small hok 0 (by omega)
  have s1 := readS_small hok 1 (by omega)
  have HB := Lib.hid (best_two (fun k => readS ss ws k) s0 s1)
  rw [show ((0 : Nat) : Int) = 0 from rfl] at HC0 HB s0
  rw [show ((1 : Nat) : Int) = 1 from rfl] at HC1 HB s1
  generalize best (fun k => readS ss ws k) 2 = B at HB
  generalize readS ss ws 0 = t0 at HC0 HB s0
  generalize readS ss ws 1 = t1 at HC1 HB s1
  have HR0 := Lib.hid (fun W => l02Read t0 W (by unfold maxLen; omega))
  have HR1 := Lib.hid (fun W => l02Read t1 W (by unfold maxLen; omega))
  generalize okG t0.data.toList = g0 at HR0 HB
  generalize okZ t0.data.toList = z0 at HR0 HB
  generalize okG t1.data.toList = g1 at HR1 HB
  generalize okZ t1.data.toList = z1 at HR1 HB
  generalize rdB t0.data.toList = k0 at HR0 HB
  generalize rdB t1.data.toList = k1 at HR1 HB
  clear hl hm hok h g hlen s0 s1
  obtain ⟨W0, hW0⟩ : ∃ W0, W0 = (w.alloc (.cells #[.slice A n c, .slice C m d] 30)).alloc (.cells #[.int .i64 0, .slice none 0 0] 49) := ⟨_, rfl⟩
  have hb0 : Below w.heap.size w W0 := by rw [hW0]; exact bt (alloc_below _ _) (alloc_below _ _)
  have X0 : Hid (Box W0 w.heap.size 30 #[.slice A n c, .slice C m d]) := Lib.hid (by rw [hW0]; exact (Box.new _ _ _).alloc _)
  have X1 : Hid (Box W0 (w.heap.size + 1) 49 #[.int .i64 0, .slice none 0 0]) := Lib.hid (by
    rw [hW0]; simpa using Box.new (w.alloc (.cells #[.slice A n c, .slice C m d] 30)) 49 #[.int .i64 0, .slice none 0 0])
  have HW0 := Lib.hid hW0
  clear hW0
  go_enter Try.func68, Try.ntmps68
  go_wp2_with fail
  rw [← HW0.out]
  clear HW0
  refine (HC0.out W0 hb0).mono ?_
  rintro e w1 ⟨rfl, hb1⟩
  go_wp2_with fail
  refine (HR0.out w1).mono ?_
  rintro e w2 ⟨A2, n2, c2, rfl, L2, O2, hb2⟩
  have k3 := bt (bt hb1 hb2) (alloc_below w2 (.cells #[.int .i64 g0, .slice A2 n2 c2] 49))
  have Y0 := Lib.hid (X0.out.step k3)
  have Y1 := Lib.hid (X1.out.step k3)
  have Y2 := Lib.hid (Box.new w2 49 #[.int .i64 g0, .slice A2 n2 c2])
  have O3 := Lib.hid (O2.out.below (alloc_below w2 (.cells #[.int .i64 g0, .slice A2 n2 c2] 49)))
  have Z1 : Hid (w.heap.size ≤ w1.heap.size ∧ w1.heap.size ≤ w2.heap.size) := Lib.hid ⟨Nat.le_trans hb0.size hb1.size, hb2.size⟩
  have hb3 := bt hb0 k3
  have f0 := Y0.out.cell 0 rfl
  have f1 := Y0.out.cell 1 rfl
  clear hb1 hb2 k3 X0 X1 O2 hb0
  go_wp2_with fail
  generalize w2.alloc (.cells #[.int .i64 g0, .slice A2 n2 c2] 49) = w3 at Y0 Y1 Y2 O3 hb3 f0 f1 ⊢
  refine (HC1.out w3 hb3).mono ?_
  rintro e w4 ⟨rfl, hb4⟩
  clear f0 f1
  go_wp2_with fail
  refine (HR1.out w4).mono ?_
  rintro e w5 ⟨A5, n5, c5, rfl, L5, O5, hb5⟩
  have k6 := bt (bt hb4 hb5) (alloc_below w5 (.cells #[.int .i64 g1, .slice A5 n5 c5] 49))
  have V1 := Lib.hid (Y1.out.step k6)
  have V2 := Lib.hid (Y2.out.step k6)
  have V3 := Lib.hid (Box.new w5 49 #[.int .i64 g1, .slice A5 n5 c5])
  have P2 := Lib.hid (O3.out.below k6)
  have P5 := Lib.hid (O5.out.below (alloc_below w5 (.cells #[.int .i64 g1, .slice A5 n5 c5] 49)))
  have Z2 : Hid (w2.heap.size < w3.heap.size ∧ w3.heap.size ≤ w4.heap.size ∧ w4.heap.size ≤ w5.heap.size ∧ w5.heap.size < (w5.alloc (.cells #[.int .i64 g1, .slice A5 n5 c5] 49)).heap.size) := Lib.hid ⟨Y2.out.lt, hb4.size, hb5.size, V3.out.lt⟩
  have hb6 := bt hb3 k6
  clear hb4 hb5 k6 Y0 Y1 Y2 O3 O5 hb3 HC0 HC1 HR0 HR1
  have y0 := V1.out.cell 0 rfl
  have y1 := V1.out.cell 1 rfl
  have y2 := V1.out.frozen 0
  have y3 := V1.out.frozen 1
  have y4 := V2.out.cell 0 rfl
  have y5 := V2.out.cell 1 rfl
  cases k0 with
  | true =>
    cases k1 with
    | true =>
      by_cases hq : g1 ≤ g0
      · have HV : Hid (B = ⟨g0, z0, 0, 0⟩) := Lib.hid (by rw [HB.out, if_pos ⟨rfl, .inr hq⟩])
        go_wp2
        refine bodyPost_ret (v := .tuple #[.agg #[.int .i64 g0, .slice A2 n2 c2], .int .i64 0]) (by simp [results, Try.results68, go_sem, y0, y1]) rfl ?_
        rw [HV.out]
        exact ⟨_, _, _, rfl, L2, Lib.hid (((P2.out.wide (lo' := w.heap.size) (hi' := w5.heap.size) (by have := Z1.out; omega) (by have := Z2.out; omega)).two V1.out (by decide) _ _).wide (Nat.le_refl _) (by simp [World.setCell])), below_st2 hb6 (by omega) _ _⟩
      · have HV : Hid (B = ⟨g1, z1, 1, 0⟩) := Lib.hid (by rw [HB.out, if_neg (by simp [hq]), if_pos rfl])
        have hq' : ¬ g1 ≤ g0 := hq
        go_wp2
        refine bodyPost_ret (v := .tuple #[.agg #[.int .i64 g1, .slice A5 n5 c5], .int .i64 1]) (by simp [results, Try.results68, go_sem, y0, y1]) rfl ?_
        rw [HV.out]
        exact ⟨_, _, _, rfl, L5, Lib.hid (((P5.out.wide (lo' := w.heap.size) (hi' := w5.heap.size) (by have := Z1.out; have := Z2.out; omega) (by have := Z2.out; omega)).two V1.out (by decide) _ _).wide (Nat.le_refl _) (by simp [World.setCell])), below_st2 hb6 (by omega) _ _⟩
    | false =>
      have HV : Hid (B = ⟨g0, z0, 0, 0⟩) := Lib.hid (by rw [HB.out, if_pos ⟨rfl, .inl rfl⟩])
      go_wp2
      refine bodyPost_ret (v := .tuple #[.agg #[.int .i64 g0, .slice A2 n2 c2], .int .i64 0]) (by simp [results, Try.results68, go_sem, y0, y1]) rfl ?_
      rw [HV.out]
      exact ⟨_, _, _, rfl, L2, Lib.hid (((P2.out.wide (lo' := w.heap.size) (hi' := w5.heap.size) (by have := Z1.out; omega) (by have := Z2.out; omega)).two V1.out (by decide) _ _).wide (Nat.le_refl _) (by simp [World.setCell])), below_st2 hb6 (by omega) _ _⟩
  | false =>
    cases k1 with
    | true =>
      have HV : Hid (B = ⟨g1, z1, 1, 0⟩) := Lib.hid (by rw [HB.out, if_neg (by simp), if_pos rfl])
      go_wp2
      refine bodyPost_ret (v := .tuple #[.agg #[.int .i64 g1, .slice A5 n5 c5], .int .i64 1]) (by simp [results, Try.results68, go_sem, y0, y1]) rfl ?_
      rw [HV.out]
      exact ⟨_, _, _, rfl, L5, Lib.hid (((P5.out.wide (lo' := w.heap.size) (hi' := w5.heap.size) (by have := Z1.out; have := Z2.out; omega) (by have := Z2.out; omega)).two V1.out (by decide) _ _).wide (Nat.le_refl _) (by simp [World.setCell])), below_st2 hb6 (by omega) _ _⟩
    | false =>
      have HV : Hid (B = ⟨0, [], 0, 9⟩) := Lib.hid (by rw [HB.out, if_neg (by simp), if_neg (by simp)])
      go_wp2
      refine bodyPost_ret (v := .tuple #[.agg #[.int .i64 0, .slice none 0 0], .int .i64 (-1)]) (by simp [results, Try.results68, go_sem, y0, y1]) rfl ?_
      rw [HV.out]
      exact ⟨_, _, _, rfl, Lib.hid rfl, Lib.hid (.inl rfl), below_st2 hb6 (by omega) _ _⟩

theorem best_code (t : Nat → ByteArray) (h0 : (t 0).size ≤ 100) (h1 : (t 1).size ≤ 100) : (best t 2).c = 0 ∧ (0 ≤ (best t 2).s) ∨ best t 2 = ⟨0, [], 0, 9⟩ := by
  rw [best_two t h0 h1]
  split
  · exact .inl ⟨rfl, by simp⟩
  · split
    · exact .inl ⟨rfl, by simp⟩
    · exact .inr rfl

theorem rdZ_le (t : ByteArray) : (rdZ t).length ≤ 17 := by
  unfold rdZ
  split
  · simp
  · split
    · rw [tabT_len]; omega
    · simp
theorem best_len (t : Nat → ByteArray) : ∀ k, (best t k).z.length ≤ 17
  | 0 => by simp [best]
  | k + 1 => by
    rw [best]
    split
    · exact rdZ_le _
    · exact best_len t k
theorem newOf_len (ss : List ByteArray) (ws : List (Int × ByteArray)) : (newOf ss ws).z.length ≤ 17 := by
  unfold newOf
  split
  · exact best_len _ 2
  · simp
end Go.Proofs.Ytlfmniekbiffjaa

/- Contracts of l02Free and of both FreeSectors. -/
namespace Go.Proofs.Ytlfmniekbiffjaa
open Go.RowKit

set_option maxRecDepth 100000 in
set_option maxHeartbeats 2000000 in
theorem l02Free (g : Int) (A : Option Addr) (n c : Nat) (zs : List Int) (w : World) (hl : zs.length = n) (hn : n ≤ maxLen) (h : IntL w A zs) :
    Calls Try.prog 69 #[.agg #[.int .i64 g, .slice A n c]] w (GivesInts (freeL zs) w) := by
  have HIn := Lib.hid (fun W (hb : Below w.heap.size w W) z => l02In A n c zs z W hl hn (h.below hb))
  obtain ⟨W0, hW0⟩ : ∃ W0, W0 = (w.alloc (.cells #[.int .i64 g, .slice A n c] 49)).alloc (.cells #[] 3) := ⟨_, rfl⟩
  have hb0 : Below w.heap.size w W0 := by rw [hW0]; exact bt (alloc_below _ _) (alloc_below _ _)
  have X0 : Hid (Box W0 w.heap.size 49 #[.int .i64 g, .slice A n c]) := Lib.hid (by rw [hW0]; exact (Box.new _ _ _).alloc _)
  have X1 : Hid (Box W0 (w.heap.size + 1) 3 #[]) := Lib.hid (by rw [hW0]; simpa using Box.new (w.alloc (.cells #[.int .i64 g, .slice A n c] 49)) 3 #[])
  have hs0 : w.heap.size + 1 ≤ W0.heap.size := by have := X1.out.lt; omega
  have HW0 := Lib.hid hW0
  clear hl hn h hW0
  go_enter Try.func69, Try.ntmps69
  go_wp2
  rw [← HW0.out]
  clear HW0
  go_loopw [4, 3] (fun i v wr => ∃ (j : Nat) (A' : Option Addr) (l c' : Nat), j ≤ 46 ∧ i = .int .i64 ((j + 2 : Nat) : Int) ∧ v = .slice A' l c' ∧ Hid ((frN zs j).length = l) ∧ l ≤ 46 ∧ Below w.heap.size w wr ∧ Hid (GroI wr (w.heap.size + 1) (.slice A' l c') (frN zs j)) ∧ Hid (Box wr w.heap.size 49 #[.int .i64 g, .slice A n c]) ∧ w.heap.size + 1 ≤ wr.heap.size) (fun i _ _ => 48 - (intOf i).toNat)
  case atStart => exact ⟨0, _, 0, 0, by omega, rfl, rfl, Lib.hid rfl, by omega, hb0, Lib.hid (rowv_empty (Nat.le_refl _) X1.out), X0, hs0⟩
  case round =>
    clear hb0 X0 X1 hs0
    obtain ⟨j, A', l, c', hj, rfl, rfl, HLl, hl46, hbw, HG, X0, hsz⟩ := hrel
    have f1 := X0.out.cell 1 rfl
    by_cases hlt : j < 46
    · have hi : ((j + 2 : Nat) : Int) < 48 := by omega
      have HI := Lib.hid (HIn.out wr hbw ((j + 2 : Nat) : Int))
      by_cases hM : ((j + 2 : Nat) : Int) ∈ zs
      · have HF := Lib.hid (frN_in zs j hM)
        rw [show decide (((j + 2 : Nat) : Int) ∈ zs) = true from decide_eq_true hM] at HI
        clear hM
        generalize hz : j + 2 = z at HI hi
        have HZ := Lib.hid hz
        have hz1 : z ≤ 1000 := by omega
        clear hz
        go_wp2_with fail
        refine HI.out.mono ?_
        rintro e w' ⟨rfl, rfl⟩
        go_wp2
        go_roundw
        case rel => exact ⟨j + 1, A', l, c', by omega, by have := HZ.out; congr 1; omega, rfl, by rw [HF.out]; exact HLl, hl46, hbw, by rw [HF.out]; exact HG, X0, hsz⟩
        case measure => simp [intOf]; omega
      · have HF := Lib.hid (frN_out zs j hM)
        have HLn := Lib.hid (frN_len zs (j + 1))
        rw [show decide (((j + 2 : Nat) : Int) ∈ zs) = false from decide_eq_false hM] at HI
        clear hM
        generalize hz : j + 2 = z at HI hi HF
        have HZ := Lib.hid hz
        have hz1 : z ≤ 1000 := by omega
        have HRk : Hid (wr.ownsRow (w.heap.size + 1) 3 1 (.slice A' l c') l ((frN zs j).map (Value.int .i64))) := Lib.hid (by have := HG.out; unfold GroI at this; rwa [HLl.out] at this)
        generalize frN zs j = fl at HRk HF HLl
        clear hz HG
        have HBa : Hid (Below wr.heap.size wr (wr.alloc (.cells #[.int .i64 (z : Int)] 3))) := Lib.hid (alloc_below _ _)
        have HOw := Lib.hid (rowv_below HRk.out HBa.out)
        have HNw : Hid (∀ i u, [Value.int .i64 (z : Int)][i]? = some u → (wr.alloc (.cells #[.int .i64 (z : Int)] 3)).cell? ⟨wr.heap.size, i, none⟩ = some u) := Lib.hid (fun i u hi => by
          match i, hi with
          | 0, hi => simp at hi; subst hi; exact (Box.new wr 3 #[.int .i64 (z : Int)]).cell 0 rfl)
        go_wp2_with fail
        refine HI.out.mono ?_
        rintro e w' ⟨rfl, rfl⟩
        go_wp2_with (at_builtin; refine wpList_app_one rfl (.tmp 15) (.tmp 17) 39 3 rfl (.int .i64 0) 1 8 elemInt Try.underlying39 (w.heap.size + 1) (.slice A' l c') l (fl.map (Value.int .i64)) rfl ?hown wr.heap.size 1 rfl [.int .i64 (z : Int)] rfl ?hnews ?hone ?h63 ?hby ?hbase ?_)
        case hown => exact HOw.out
        case hnews => exact HNw.out
        case hone => intro u hu; simp at hu; subst hu; rfl
        case h63 => unfold maxLen; omega
        case hby => omega
        case hbase => simp; omega
        intro A2 c2 w2 hR2 hc2 hg2 hb2
        have HR2 := Lib.hid hR2
        have X2 := Lib.hid ((X0.out.step HBa.out).below hb2 (by omega))
        have hbz : Below w.heap.size w w2 := (bt hbw HBa.out).trans (hb2.mono (by omega))
        have hs2 : w.heap.size + 1 ≤ w2.heap.size := Nat.le_trans (Nat.le_trans hsz HBa.out.size) hb2.size
        clear hR2 hb2 hg2 f1
        go_wp2
        go_roundw
        case rel =>
          refine ⟨j + 1, A2, l + 1, c2, by omega, by have := HZ.out; congr 1; omega, rfl, Lib.hid (by rw [HF.out, List.length_append, HLl.out]; rfl), ?_, hbz, Lib.hid ?_, X2, hs2⟩
          · have := HLn.out; rw [HF.out, List.length_append, HLl.out] at this; simp at this; omega
          · unfold GroI; rw [HF.out, List.length_append, HLl.out, List.map_append]; exact HR2.out
        case measure => simp [intOf]; omega
    · obtain rfl : j = 46 := by omega
      go_wp2
      refine bodyPost_ret (v := .slice A' l c') (by simp [results, Try.results69, go_sem]) rfl ?_
      exact ⟨_, _, _, rfl, HLl, Lib.hid (HG.out.own (by omega)), hbw⟩

/-- The call hands back a []int of its own, and a code. -/
def GivesIntsCode (b : List Int × Int) (w : World) (e : Ending) (w' : World) : Prop :=
  ∃ A n c, e = .returned (.tuple #[.slice A n c, .int .i64 b.2]) ∧ Hid (b.1.length = n) ∧ Hid (OwnI w' w.heap.size w'.heap.size A b.1) ∧ Below w.heap.size w w'
/-- What FreeSectors answers. -/
def freeOf (ss : List ByteArray) (ws : List (Int × ByteArray)) : List Int × Int := if (newOf ss ws).c = 0 then (freeL (newOf ss ws).z, 0) else ([], (newOf ss ws).c)
theorem freeOf_len (ss : List ByteArray) (ws : List (Int × ByteArray)) : (freeOf ss ws).1.length ≤ 46 := by
  unfold freeOf
  split
  · exact frN_len _ 46
  · simp

set_option maxRecDepth 100000 in
set_option maxHeartbeats 2000000 in
theorem implFree (A C : Option Addr) (n c m d : Nat) (ss : List ByteArray) (ws : List (Int × ByteArray)) (w : World) (hl : ss.length = n) (hm : ws.length = m) (hn : n ≤ maxLen) (hmm : m ≤ maxLen) (h : StrL w A ss) (g : WrL w C ws) (fs : FitS ss) (fw : FitW ws) :
    Calls Try.prog 34 #[.agg #[.slice A n c, .slice C m d]] w (GivesIntsCode (freeOf ss ws) w) := by
  have hb0 := alloc_below w (.cells #[.slice A n c, .slice C m d] 30)
  have HN := Lib.hid (implNewest A C n c m d ss ws _ hl hm hn hmm (h.below hb0) (g.below hb0) fs fw)
  have HF := Lib.hid (show freeOf ss ws = if (newOf ss ws).c = 0 then (freeL (newOf ss ws).z, 0) else ([], (newOf ss ws).c) from rfl)
  have HLz := Lib.hid (newOf_len ss ws)
  generalize newOf ss ws = b at HN HF HLz
  generalize freeOf ss ws = r at HF
  clear hl hm hn hmm h g fs fw
  go_enter Try.func34, Try.ntmps34
  go_wp2_with fail
  refine HN.out.mono ?_
  rintro e w1 ⟨A1, n1, c1, rfl, L1, O1, hb1⟩
  have hb := bt hb0 hb1
  have hb2 := bt hb (alloc_below w1 (.cells #[.int .i64 b.g, .slice A1 n1 c1] 49))
  have X1 := Lib.hid (Box.new w1 49 #[.int .i64 b.g, .slice A1 n1 c1])
  have O2 := Lib.hid (O1.out.below (alloc_below w1 (.cells #[.int .i64 b.g, .slice A1 n1 c1] 49)))
  by_cases hc : b.c = 0
  · have hcb : (b.c != 0) = false := by simp [hc]
    have HR : Hid (r = (freeL b.z, 0)) := Lib.hid (by rw [HF.out, if_pos hc])
    have HFr := Lib.hid (rootFree b.g A1 n1 c1 b.z _ L1.out (by have := HLz.out; have := L1.out; unfold maxLen; omega) O2.out.reads)
    generalize freeL b.z = fz at HR HFr
    have hc' : b.c = 0 := hc
    clear hc hb0 hb1 hb
    go_wp2_with fail
    refine HFr.out.mono ?_
    rintro e w3 ⟨A3, n3, c3, rfl, L3, O3, hb3⟩
    have HZ : Hid (w.heap.size ≤ (w1.alloc (.cells #[.int .i64 b.g, .slice A1 n1 c1] 49)).heap.size) := Lib.hid hb2.size
    go_wp2
    refine bodyPost_ret (v := .tuple #[.slice A3 n3 c3, .int .i64 0]) (by simp [results, Try.results34, go_sem]) rfl ?_
    rw [HR.out]
    exact ⟨_, _, _, rfl, L3, Lib.hid (O3.out.wide HZ.out (Nat.le_refl _)), bt hb2 hb3⟩
  · have hcb : (b.c != 0) = true := by simp [hc]
    have HR : Hid (r = ([], b.c)) := Lib.hid (by rw [HF.out, if_neg hc])
    clear hc hb0 hb1 hb
    go_wp2
    refine bodyPost_ret (v := .tuple #[.slice none 0 0, .int .i64 b.c]) (by simp [results, Try.results34, go_sem]) rfl ?_
    rw [HR.out]
    exact ⟨_, _, _, rfl, Lib.hid rfl, Lib.hid (.inl rfl), hb2⟩

theorem newOf_cases (ss : List ByteArray) (ws : List (Int × ByteArray)) : (okDisk ss ws = false ∧ newOf ss ws = ⟨0, [], 0, 1⟩) ∨
    (okDisk ss ws = true ∧ newOf ss ws = best (fun k => readS ss ws k) 2 ∧ ((newOf ss ws).c = 0 ∧ 0 ≤ (newOf ss ws).s ∧ slotOf (newOf ss ws) = (newOf ss ws).s ∨ newOf ss ws = ⟨0, [], 0, 9⟩ ∧ slotOf (newOf ss ws) = -1)) := by
  by_cases hok : okDisk ss ws = true
  · right
    have e : newOf ss ws = best (fun k => readS ss ws k) 2 := by unfold newOf; rw [if_pos hok]
    refine ⟨hok, e, ?_⟩
    rw [e]
    rcases best_code (fun k => readS ss ws k) (readS_small hok 0 (by omega)) (readS_small hok 1 (by omega)) with ⟨h1, h2⟩ | h
    · exact .inl ⟨h1, h2, by unfold slotOf; rw [if_pos h1]⟩
    · exact .inr ⟨h, by rw [h]; rfl⟩
  · left
    exact ⟨by simpa using hok, by unfold newOf; rw [if_neg hok]⟩

set_option maxRecDepth 100000 in
set_option maxHeartbeats 2000000 in
theorem specFree (A C : Option Addr) (n c m d : Nat) (ss : List ByteArray) (ws : List (Int × ByteArray)) (w : World) (hl : ss.length = n) (hm : ws.length = m) (hn : n ≤ maxLen) (hmm : m ≤ maxLen) (h : StrL w A ss) (g : WrL w C ws) (fs : FitS ss) (fw : FitW ws) :
    Calls Try.prog 35 #[.agg #[.slice A n c, .slice C m d]] w (GivesIntsCode (freeOf ss ws) w) := by
  have hb0 := alloc_below w (.cells #[.slice A n c, .slice C m d] 30)
  have X0 := Lib.hid (Box.new w 30 #[.slice A n c, .slice C m d])
  have HV := Lib.hid (specDiskOK A C n c m d ss ws _ hl hm hn hmm (h.below hb0) (g.below hb0) fs fw)
  have HN := Lib.hid (fun W (hb : Below w.heap.size w W) (hok : okDisk ss ws = true) => l02Newest A C n c m d ss ws W hl hm hok (h.below hb) (g.below hb))
  have HF := Lib.hid (show freeOf ss ws = if (newOf ss ws).c = 0 then (freeL (newOf ss ws).z, 0) else ([], (newOf ss ws).c) from rfl)
  have HLz := Lib.hid (newOf_len ss ws)
  have hcase := newOf_cases ss ws
  generalize freeOf ss ws = r at HF
  clear hl hm hn hmm h g fs fw
  rcases hcase with ⟨hok, hnew⟩ | ⟨hok, hnew, hcode⟩
  · rw [hok] at HV
    have HR : Hid (r = ([], 1)) := Lib.hid (by rw [HF.out, hnew]; rfl)
    clear hok hnew HN HF HLz
    go_enter Try.func35, Try.ntmps35
    go_wp2_with fail
    refine HV.out.mono ?_
    rintro e w1 ⟨rfl, hb1⟩
    go_wp2
    refine bodyPost_ret (v := .tuple #[.slice (some ⟨w1.heap.size, 0, none⟩) 0 0, .int .i64 1]) (by simp [results, Try.results35, go_sem]) rfl ?_
    rw [HR.out]
    exact ⟨_, _, _, rfl, Lib.hid rfl, Lib.hid (.inl rfl), bt (bt hb0 hb1) (alloc_below _ _)⟩
  · rw [hok] at HV
    have HNk := Lib.hid (fun W hb => HN.out W hb hok)
    rw [← hnew] at HNk
    generalize newOf ss ws = b at HF HLz hcode HNk
    have HCo := Lib.hid hcode
    clear hok hnew HN hcode
    go_enter Try.func35, Try.ntmps35
    go_wp2_with fail
    refine HV.out.mono ?_
    rintro e w1 ⟨rfl, hb1⟩
    have Y0 := X0.out.step hb1
    have f0 := Y0.cell 0 rfl
    have f1 := Y0.cell 1 rfl
    have hb := bt hb0 hb1
    clear Y0 hb0 hb1
    go_wp2_with fail
    refine (HNk.out w1 hb).mono ?_
    rintro e w2 ⟨A2, n2, c2, rfl, L2, O2, hb2⟩
    have hb3 := bt (bt hb hb2) (alloc_below w2 (.cells #[.int .i64 b.g, .slice A2 n2 c2] 49))
    have O3 := Lib.hid (O2.out.below (alloc_below w2 (.cells #[.int .i64 b.g, .slice A2 n2 c2] 49)))
    clear f0 f1 hb hb2 HNk
    rcases HCo.out with ⟨hc, hs, hsl⟩ | ⟨hbz, hsl⟩
    · have hs' : ¬ slotOf b < 0 := by rw [hsl]; omega
      have HR : Hid (r = (freeL b.z, 0)) := Lib.hid (by rw [HF.out, if_pos hc])
      have HFr := Lib.hid (l02Free b.g A2 n2 c2 b.z _ L2.out (by have := HLz.out; have := L2.out; unfold maxLen; omega) O3.out.reads)
      generalize freeL b.z = fz at HR HFr
      have HZ : Hid (w.heap.size ≤ (w2.alloc (.cells #[.int .i64 b.g, .slice A2 n2 c2] 49)).heap.size) := Lib.hid hb3.size
      generalize slotOf b = sl at hs' 
      clear hc hs hsl HF
      go_wp2_with fail
      refine HFr.out.mono ?_
      rintro e w4 ⟨A4, n4, c4, rfl, L4, O4, hb4⟩
      go_wp2
      refine bodyPost_ret (v := .tuple #[.slice A4 n4 c4, .int .i64 0]) (by simp [results, Try.results35, go_sem]) rfl ?_
      rw [HR.out]
      exact ⟨_, _, _, rfl, L4, Lib.hid (O4.out.wide HZ.out (Nat.le_refl _)), bt hb3 hb4⟩
    · have hs' : slotOf b < 0 := by rw [hsl]; omega
      have HR : Hid (r = ([], 9)) := Lib.hid (by rw [HF.out, hbz]; rfl)
      generalize slotOf b = sl at hs' hsl
      clear hbz hsl HF
      go_wp2
      refine bodyPost_ret (v := .tuple #[.slice (some ⟨w2.heap.size + 1, 0, none⟩) 0 0, .int .i64 9]) (by simp [results, Try.results35, go_sem]) rfl ?_
      rw [HR.out]
      exact ⟨_, _, _, rfl, Lib.hid rfl, Lib.hid (.inl rfl), bt hb3 (alloc_below _ _)⟩
end Go.Proofs.Ytlfmniekbiffjaa

/- The contract of l02Load. -/
namespace Go.Proofs.Ytlfmniekbiffjaa
open Go.RowKit

/-- The pages of a table. -/
def loadL (ss : List ByteArray) (ws : List (Int × ByteArray)) (zs : List Int) : List ByteArray := zs.map (readS ss ws)
theorem loadL_step (ss : List ByteArray) (ws : List (Int × ByteArray)) (zs : List Int) (k : Nat) (h : k < zs.length) : loadL ss ws (zs.take (k + 1)) = loadL ss ws (zs.take k) ++ [readS ss ws (zs.getD k 0)] := by
  unfold loadL
  rw [List.take_succ_eq_append_getElem h, List.map_append, List.getD_eq_getElem?_getD, List.getElem?_eq_getElem h]; rfl
/-- The call hands back a []string of its own. -/
def GivesStrs (rs : List ByteArray) (w : World) (e : Ending) (w' : World) : Prop :=
  ∃ A n c, e = .returned (.slice A n c) ∧ Hid (rs.length = n) ∧ Hid (OwnS w' w.heap.size w'.heap.size A rs) ∧ Below w.heap.size w w'

/-- The call hands back a []string of its own, and a code. -/
def GivesStrsCode (b : List ByteArray × Int) (w : World) (e : Ending) (w' : World) : Prop :=
  ∃ A n c, e = .returned (.tuple #[.slice A n c, .int .i64 b.2]) ∧ Hid (b.1.length = n) ∧ Hid (OwnS w' w.heap.size w'.heap.size A b.1) ∧ Below w.heap.size w w'
theorem OwnS.wide' {w : World} {lo hi lo' hi' : Nat} {A : Option Addr} {ss : List ByteArray} (h : OwnS w lo hi A ss) (h1 : lo' ≤ lo) (h2 : hi ≤ hi') : OwnS w lo' hi' A ss := by
  rcases h with e | ⟨b, m, f, e, p1, p2, hm, hr, hf⟩
  · exact .inl e
  · exact .inr ⟨b, m, f, e, by omega, by omega, hm, hr, hf⟩
/-- What LoadPages answers. -/
def loadOf (ss : List ByteArray) (ws : List (Int × ByteArray)) : List ByteArray × Int := if (newOf ss ws).c = 0 then (loadL ss ws (newOf ss ws).z, 0) else ([], (newOf ss ws).c)
theorem loadOf_len (ss : List ByteArray) (ws : List (Int × ByteArray)) : (loadOf ss ws).1.length ≤ 17 := by
  unfold loadOf
  split
  · unfold loadL; rw [List.length_map]; exact newOf_len ss ws
  · simp
theorem rd_good (t : ByteArray) (h : rdC t = 0) : (rdZ t).length = 17 ∧ ∀ z ∈ rdZ t, 2 ≤ z ∧ z ≤ 47 := by
  unfold rdC at h
  unfold rdZ
  split at h
  · omega
  · rename_i h1
    rw [if_neg h1]
    split at h
    · rename_i hb
      rw [if_pos hb]
      refine ⟨tabT_len _ _, fun z hz => ?_⟩
      unfold rdB at hb
      simp only [Bool.and_eq_true] at hb
      have hr := hb.2.2.2
      unfold rootB at hr
      simp only [Bool.and_eq_true, List.all_eq_true] at hr
      have := hr.1.2 z hz
      unfold pageB at this
      simpa using this
    · omega
theorem best_good (t : Nat → ByteArray) : ∀ k, (best t k).c = 0 → (best t k).z.length = 17 ∧ ∀ z ∈ (best t k).z, 2 ≤ z ∧ z ≤ 47
  | 0, h => by simp [best] at h
  | k + 1, h => by
    rw [best] at h ⊢
    split
    · rename_i hq
      exact rd_good _ hq.1
    · rename_i hq
      rw [if_neg hq] at h
      exact best_good t k h
theorem newOf_good (ss : List ByteArray) (ws : List (Int × ByteArray)) (h : (newOf ss ws).c = 0) : (newOf ss ws).z.length = 17 ∧ ∀ z ∈ (newOf ss ws).z, 2 ≤ z ∧ z ≤ 47 := by
  unfold newOf at h ⊢
  split at h
  · rename_i hok
    rw [if_pos hok]
    exact best_good _ 2 h
  · simp at h

end Go.Proofs.Ytlfmniekbiffjaa

/- Contracts of the digits' functions: l00Digits, l02Digits, digitsOf. -/
namespace Go.Proofs.Ytlfmniekbiffjaa
open Go.RowKit

set_option maxRecDepth 100000 in
theorem conv_dig (W : World) (b j : Nat) (h : W.cell? ⟨b, 0, none⟩ = some (.int .u8 (48 + (j : Int) % 10))) :
    (convert 45 9 (.slice (some ⟨b, 0, none⟩) 1 1)).run Try.prog W = .ok (.string (bs [dg j])) W :=
  run_convert_bytes_back (P := Try.prog) W 45 9 5 ⟨b, 0, none⟩ 1 [dg j] Try.underlying45 Try.underlying5 Try.underlying9 (fun i hi => by
    have hi' : i = 0 := by simpa using hi
    subst hi'
    simp only [List.getElem_cons_zero]
    rw [dg_nat]
    simpa [Addr.add] using h)
set_option maxRecDepth 100000 in
theorem conv_new (V : World) (j : Nat) : (convert 45 9 (.slice (some ⟨V.heap.size, 0, none⟩) 1 1)).run Try.prog (V.alloc (.cells #[.int .u8 (48 + (j : Int) % 10)] 5)) = .ok (.string (bs [dg j])) (V.alloc (.cells #[.int .u8 (48 + (j : Int) % 10)] 5)) :=
  conv_dig _ _ j ((Box.new V 5 #[.int .u8 (48 + (j : Int) % 10)]).cell 0 rfl)

set_option maxRecDepth 100000 in
set_option maxHeartbeats 1000000 in
theorem l00Digits : ∀ (f n : Nat) (w : World), n < 10 ^ (f + 1) → f ≤ 17 → Calls Try.prog 117 #[.int .i64 n] w fun e w' => e = .returned (.string (bs (decF (f + 1) n))) ∧ Below w.heap.size w w'
  | f, n, w, h, hf => by
    have hbig : n < 1000000000000000000 := Nat.lt_of_lt_of_le h (Nat.le_trans (Nat.pow_le_pow_right (by omega) (show f + 1 ≤ 18 by omega)) (by decide))
    have q0 : ((n : Int) == -9223372036854775808) = false := by simp
    have q1 : ¬ (n : Int) < 0 := by omega
    by_cases hn : n < 10
    · have q2 : (n : Int) < 10 := by omega
      have hm : (n : Int) % 10 = (n : Int) := by omega
      have HD : Hid (decF (f + 1) n = [dg n]) := Lib.hid (by rw [decF, if_pos hn])
      have hcv := fun V => conv_new V n
      rw [hm] at hcv
      clear hm h
      go_enter Try.func117, Try.ntmps117
      go_wp2
      go_ret
      exact ⟨ret_str (by rw [HD.out]), alloc_below _ _⟩
    · have q2 : ¬ (n : Int) < 10 := by omega
      match f, h, hf with
      | 0, h, hf => exact absurd h (by simp; omega)
      | f + 1, h, hf =>
        have IH := Lib.hid (fun W => l00Digits f (n / 10) W (by rw [Nat.pow_succ] at h; omega) (by omega))
        have HD : Hid (decF (f + 1 + 1) n = decF (f + 1) (n / 10) ++ [dg n]) := Lib.hid (by rw [decF, if_neg hn])
        have HLn := Lib.hid (decF_len (f + 1) (n / 10))
        have hcv := fun V => conv_new V n
        have HC := Lib.hid (fun W b => conv_dig W b n)
        rw [show ((n / 10 : Nat) : Int) = (n : Int) / 10 by omega] at IH
        generalize decF (f + 1) (n / 10) = l at IH HD HLn
        clear h hn
        go_enter Try.func117, Try.ntmps117
        go_wp2
        have h6 : Below w.heap.size w w.drew := (Below.refl _ _).drew
        have e1 : IntKind.i64.wrap ((n : Int) / 10) = (n : Int) / 10 := IntWalk.i64_in _ (by omega)
        have e3 : IntKind.i64.wrap (48 + (n : Int) % 10) = 48 + (n : Int) % 10 := IntWalk.i64_in _ (by omega)
        have e4 : IntKind.u8.wrap (48 + (n : Int) % 10) = 48 + (n : Int) % 10 := IntWalk.u8_in _ (by omega)
        have e2 : (n : Int).tmod 10 = (n : Int) % 10 := Int.tmod_eq_emod_of_nonneg (by omega)
        have hnl : ¬ 9223372036854775807 < (bs l).size + (bs [dg n]).size := by have := HLn.out; rw [bs_size, bs_size]; simp; omega
        have hcv2 := conv_dig (w.alloc (.cells #[.int .u8 (48 + (n : Int) % 10)] 5)).drew w.heap.size n ((Box.new w 5 #[.int .u8 (48 + (n : Int) % 10)]).cell 0 rfl)
        go_region_with (first
          | (go_at_call 117; refine (IH.out (w.alloc (.cells #[.int .u8 (48 + (n : Int) % 10)] 5)).drew).mono ?_; rintro e w1 ⟨rfl, hb1⟩; have kb := bt ((alloc_below w _).drew) hb1; have kc := HC.out w1 w.heap.size ((hb1.cell (p := ⟨w.heap.size, 0, none⟩) (by simp)).trans ((Box.new w 5 #[.int .u8 (48 + (n : Int) % 10)]).cell 0 rfl)))
          | (go_at_call 117; refine (IH.out w.drew).mono ?_; rintro e w1 ⟨rfl, hb1⟩; have kb := bt h6 hb1))
        all_goals clear hcv hcv2
        all_goals go_wp2
        all_goals go_ret
        all_goals (refine ⟨ret_str (by rw [HD.out, ← bs_app]), ?_⟩)
        all_goals (first | exact kb | exact bt kb (alloc_below _ _))

set_option maxRecDepth 100000 in
set_option maxHeartbeats 1000000 in
theorem l02Digits (W n : Nat) (w : World) (h : n < 10 ^ (W + 1)) (hW : W ≤ 17) :
    Calls Try.prog 105 #[.int .i64 n, .int .i64 ((W + 1 : Nat) : Int)] w fun e w' => e = .returned (.string (bs (digs (W + 1) n))) ∧ Below w.heap.size w w' := by
  have HD := Lib.hid (l00Digits W n w h hW)
  have HP := Lib.hid (pad_dec W n h)
  have HLn := Lib.hid (decF_len (W + 1) n)
  generalize decF (W + 1) n = l at HD HP HLn
  generalize digs (W + 1) n = r at HP
  clear h
  go_enter Try.func105, Try.ntmps105
  go_wp2_with fail
  refine HD.out.mono ?_
  rintro e w1 ⟨rfl, hb1⟩
  go_wp2
  go_loop [5] (fun t => ∃ j : Nat, t = .string (bs (List.replicate j 48 ++ l)) ∧ j + l.length ≤ W + 1) (fun t => W + 1 - (match t with | .string s => s.size | _ => 0))
  case atStart => exact ⟨0, by simp, by have := HLn.out; omega⟩
  case round =>
    obtain ⟨j, rfl, hj⟩ := hrel
    have hsz : (bs (List.replicate j 48 ++ l)).size = j + l.length := by rw [bs_size]; simp
    by_cases hlt : j + l.length < W + 1
    · have hc : (((bs (List.replicate j 48 ++ l)).size : Nat) : Int) < ((W + 1 : Nat) : Int) := by rw [hsz]; omega
      have hnl : ¬ 9223372036854775807 < (⟨#[48]⟩ : ByteArray).size + (bs (List.replicate j 48 ++ l)).size := by rw [hsz]; show ¬ 9223372036854775807 < 1 + _; omega
      have HN : Hid ((⟨#[48]⟩ : ByteArray) ++ bs (List.replicate j 48 ++ l) = bs (List.replicate (j + 1) 48 ++ l)) := Lib.hid (by rw [List.replicate_succ]; exact bs_app [48] _)
      have HZ := Lib.hid hsz
      clear hsz
      generalize bs (List.replicate j 48 ++ l) = t at hc hnl HN HZ
      go_wp2
      refine ⟨⟨j + 1, by rw [HN.out], by omega⟩, ?_⟩
      show W + 1 - ((⟨#[48]⟩ : ByteArray) ++ t).size < W + 1 - t.size
      rw [ByteArray.size_append, HZ.out]
      show W + 1 - (1 + (j + l.length)) < _
      omega
    · have hc : ¬ (((bs (List.replicate j 48 ++ l)).size : Nat) : Int) < ((W + 1 : Nat) : Int) := by rw [hsz]; omega
      have HF : Hid (bs (List.replicate j 48 ++ l) = bs r) := Lib.hid (by rw [← HP.out, show W + 1 - l.length = j by omega])
      clear hsz
      generalize bs (List.replicate j 48 ++ l) = t at hc HF
      go_wp2
      go_ret
      exact ⟨ret_str HF.out, hb1⟩

theorem digs_split (W j n : Nat) (x : Nat) (hj : j < W) (_hx : x < W) :
    (if x = W - (j + 1) then Value.int .u8 (48 + ((n / 10 ^ j : Nat) : Int) % 10) else if W - j ≤ x then Value.int .u8 ((digs j n).getD (x - (W - j)) 0).toNat else .int .u8 0) =
    (if W - (j + 1) ≤ x then Value.int .u8 ((digs (j + 1) n).getD (x - (W - (j + 1))) 0).toNat else .int .u8 0) := by
  rw [digs_front]
  by_cases h1 : x = W - (j + 1)
  · rw [if_pos h1, if_pos (by omega), show x - (W - (j + 1)) = 0 by omega]
    simp only [List.getD_cons_zero]
    rw [dg_nat]
    rfl
  · rw [if_neg h1]
    by_cases h2 : W - j ≤ x
    · rw [if_pos h2, if_pos (by omega), show x - (W - (j + 1)) = (x - (W - j)) + 1 by omega]
      simp only [List.getD_cons_succ]
    · rw [if_neg h2, if_neg (by omega)]

set_option maxRecDepth 100000 in
theorem infoU8 : (Try.prog.info? 5).map (fun i => (i.zero, i.size, i.bytes)) = some (some (.int .u8 0), 1, 1) := by kernel_rfl

set_option maxRecDepth 100000 in
set_option maxHeartbeats 1000000 in
theorem digitsOf (W n : Nat) (w : World) (hn : n ≤ 1000000000000) (hW : W ≤ 17) :
    Calls Try.prog 104 #[.int .i64 n, .int .i64 (W : Int)] w fun e w' => e = .returned (.string (bs (digs W n))) ∧ Below w.heap.size w w' := by
  have hmk := fun V => run_make_row' (P := Try.prog) 45 5 (.int .u8 0) 1 Try.underlying45 infoU8 rfl .i64 .i64 W (by omega) (by omega) V
  go_enter Try.func104, Try.ntmps104
  go_wp2
  clear hmk
  have HR := Lib.hid (World.rowIs_made w (.int .u8 0) W 5)
  have hbel := alloc_below w (.cells (madeCells #[.int .u8 0] W) 5)
  generalize w.alloc (.cells (madeCells #[.int .u8 0] W) 5) = wa at hbel HR ⊢
  go_loopw [0, 6] (fun a i wr => ∃ j : Nat, j ≤ W ∧ i = .int .i64 ((W : Int) - 1 - (j : Int)) ∧ a = .int .i64 ((n / 10 ^ j : Nat) : Int) ∧ Below w.heap.size w wr ∧ Hid (wr.rowIs w.heap.size 5 W (fun x => if W - j ≤ x then .int .u8 ((digs j n).getD (x - (W - j)) 0).toNat else .int .u8 0))) (fun _ i _ => (intOf i + 1).toNat)
  case atStart => exact ⟨0, Nat.zero_le _, by simp, by simp, hbel, Lib.hid (HR.out.congr (fun x hx => by rw [if_neg (by omega)]))⟩
  case round =>
    obtain ⟨j, hj, rfl, rfl, hbw, HW⟩ := hrel
    have hq : n / 10 ^ j ≤ n := Nat.div_le_self _ _
    by_cases hlt : j < W
    · have hc := HW.out.cell (i := W - (j + 1)) (by omega)
      have hfz := HW.out.frozen (W - (j + 1))
      rw [if_neg (by omega)] at hc
      have HS := Lib.hid (HW.out.set (W - (j + 1)) (.int .u8 (48 + ((n / 10 ^ j : Nat) : Int) % 10)))
      have HX := Lib.hid (fun x hx => digs_split W j n x hlt hx)
      have HNx : Hid (n / 10 ^ (j + 1) = n / 10 ^ j / 10) := Lib.hid (by rw [Nat.pow_succ, Nat.div_div_eq_div_mul])
      generalize n / 10 ^ j = m at hq HS HX HNx
      obtain ⟨i, hi⟩ : ∃ i : Nat, i = W - (j + 1) := ⟨_, rfl⟩
      rw [← hi] at hc hfz HS
      have HI := Lib.hid hi
      have e1 : (W : Int) - 1 - (j : Int) = (i : Int) := by omega
      rw [e1]
      have hi1 : (i : Int) < (W : Int) := by omega
      clear hi e1 HW
      go_wp2
      refine ⟨⟨j + 1, by omega, ?_, ?_, hbw.setCell (Nat.le_refl _) _, Lib.hid (HS.out.congr (fun x hx => ?_))⟩, ?_⟩
      · have := HI.out; congr 1; omega
      · rw [HNx.out]; congr 1
      · rw [HI.out]; exact HX.out x hx
      · simp [intOf]
    · obtain rfl : j = W := by omega
      have hz : ¬ (0 : Int) ≤ (j : Int) - 1 - (j : Int) := by omega
      have hcv := run_convert_bytes_back (P := Try.prog) wr 45 9 5 ⟨w.heap.size, 0, none⟩ j (digs j n) Try.underlying45 Try.underlying5 Try.underlying9 (fun i hi => by
        have hi' : i < j := by rwa [digs_len] at hi
        have := HW.out.cell (i := i) hi'
        rw [if_pos (by omega), show i - (j - j) = i by omega, List.getD_eq_getElem?_getD, List.getElem?_eq_getElem hi, Option.getD_some] at this
        unfold Addr.add
        by_cases h0 : i = 0
        · subst h0; simpa using this
        · rw [if_neg h0]; simpa using this)
      rw [digs_len] at hcv
      have HF : Hid ((⟨(digs j n).toArray⟩ : ByteArray) = bs (digs j n)) := Lib.hid rfl
      generalize (⟨(digs j n).toArray⟩ : ByteArray) = t at hcv HF
      clear HW hq
      generalize n / 10 ^ j = m
      go_wp2
      go_ret
      exact ⟨ret_str HF.out, hbw⟩
end Go.Proofs.Ytlfmniekbiffjaa

/- Contracts of the roots' texts: Root.text, l02Text, both RootText. -/
namespace Go.Proofs.Ytlfmniekbiffjaa
open Go.RowKit

def tabTx (zs : List Int) : List UInt8 := zs.flatMap fun z => digs 2 z.toNat
/-- The text of a root. -/
def rootTx (g : Int) (zs : List Int) : ByteArray := bs (digs 6 g.toNat ++ tabTx zs ++ digs 6 g.toNat)
theorem tabTx_step (zs : List Int) (k : Nat) (h : k < zs.length) : tabTx (zs.take (k + 1)) = tabTx (zs.take k) ++ digs 2 (zs.getD k 0).toNat := by
  unfold tabTx
  rw [List.take_succ_eq_append_getElem h, List.flatMap_append, List.getD_eq_getElem?_getD, List.getElem?_eq_getElem h]
  simp
theorem tabTx_len (zs : List Int) : (tabTx zs).length = 2 * zs.length := by
  induction zs with
  | nil => rfl
  | cons a r ih => unfold tabTx at ih ⊢; rw [List.flatMap_cons, List.length_append, ih, digs_len]; simp; omega

set_option maxRecDepth 100000 in
set_option maxHeartbeats 1000000 in
theorem rootText (g : Int) (A : Option Addr) (n c : Nat) (zs : List Int) (w : World) (hl : zs.length = n) (hn : n ≤ 17) (hg : 0 ≤ g ∧ g ≤ 999999) (hz : ∀ z ∈ zs, 0 ≤ z ∧ z ≤ 99) (h : IntL w A zs) :
    Calls Try.prog 73 #[.agg #[.int .i64 g, .slice A n c]] w fun e w' => e = .returned (.string (rootTx g zs)) ∧ Below w.heap.size w w' := by
  obtain ⟨gn, rfl⟩ : ∃ gn : Nat, g = gn := ⟨g.toNat, by omega⟩
  have hb0 := alloc_below w (.cells #[.int .i64 gn, .slice A n c] 49)
  have X := Box.new w 49 #[.int .i64 (gn : Int), .slice A n c]
  have HD6 := Lib.hid (fun W => digitsOf 6 gn W (by omega) (by omega))
  rw [show ((6 : Nat) : Int) = 6 from rfl] at HD6
  have HT : Hid (rootTx gn zs = bs (digs 6 gn ++ tabTx zs ++ digs 6 gn)) := Lib.hid (by unfold rootTx; rw [Int.toNat_natCast])
  have HLd := Lib.hid (digs_len 6 gn)
  generalize digs 6 gn = gd at HD6 HT HLd
  have HL := Lib.hid hl
  have H := Lib.hid h
  have HZ := Lib.hid hz
  clear hl h hz hg
  go_enter Try.func73, Try.ntmps73
  go_wp2_with fail
  refine (HD6.out _).mono ?_
  rintro e w1 ⟨rfl, hb1⟩
  have X1 := X.step hb1
  have f1 := X1.cell 1 rfl
  have hb := bt hb0 hb1
  clear hb0 hb1 X X1 HD6
  go_wp2
  go_loopw [14, 4] (fun i t wr => ∃ k : Nat, k ≤ n ∧ i = .int .i64 k ∧ t = .string (bs (gd ++ tabTx (zs.take k))) ∧ Below w.heap.size w wr) (fun i _ _ => n - (intOf i).toNat)
  case atStart => exact ⟨0, Nat.zero_le _, rfl, by simp [tabTx], hb⟩
  case round =>
    obtain ⟨k, hk, rfl, rfl, hbw⟩ := hrel
    have hsz : (bs (gd ++ tabTx (zs.take k))).size ≤ 40 := by
      rw [bs_size, List.length_append, HLd.out, tabTx_len, List.length_take]; omega
    by_cases hlt : k < n
    · obtain ⟨b, off, rfl, hc⟩ := (H.out.below hbw) k (by rw [HL.out]; exact hlt)
      have hzk : 0 ≤ zs.getD k 0 ∧ zs.getD k 0 ≤ 99 := HZ.out _ (by rw [List.getD_eq_getElem?_getD, List.getElem?_eq_getElem (by rw [HL.out]; exact hlt)]; exact List.getElem_mem _)
      have HS := Lib.hid (tabTx_step zs k (by rw [HL.out]; exact hlt))
      generalize zs.getD k 0 = z at hc HS hzk
      obtain ⟨zn, rfl⟩ : ∃ zn : Nat, z = zn := ⟨z.toNat, by omega⟩
      rw [Int.toNat_natCast] at HS
      have HD2 := Lib.hid (fun W => digitsOf 2 zn W (by omega) (by omega))
      rw [show ((2 : Nat) : Int) = 2 from rfl] at HD2
      have hs2 : (bs (digs 2 zn)).size = 2 := by rw [bs_size, digs_len]
      have HN : Hid (bs (gd ++ tabTx (zs.take k)) ++ bs (digs 2 zn) = bs (gd ++ tabTx (zs.take (k + 1)))) := Lib.hid (by rw [bs_app, HS.out, List.append_assoc])
      have hnl : ¬ 9223372036854775807 < (bs (gd ++ tabTx (zs.take k))).size + (bs (digs 2 zn)).size := by omega
      have hi : (k : Int) < (n : Int) := by omega
      clear hs2 hsz
      generalize bs (digs 2 zn) = d2 at HD2 HN hnl
      generalize bs (gd ++ tabTx (zs.take k)) = t at HN hnl
      go_wp2_with fail
      refine (HD2.out _).mono ?_
      rintro e w2 ⟨rfl, hb2⟩
      go_wp2
      go_roundw
      case rel => exact ⟨k + 1, by omega, by go_num, by rw [HN.out], bt hbw hb2⟩
      case measure => simp [intOf]; omega
    · have hs6 : (bs gd).size = 6 := by rw [bs_size, HLd.out]
      have HN : Hid (bs (gd ++ tabTx (zs.take k)) ++ bs gd = rootTx gn zs) := Lib.hid (by rw [bs_app, HT.out, List.take_of_length_le (by rw [HL.out]; omega)])
      have hnl : ¬ 9223372036854775807 < (bs (gd ++ tabTx (zs.take k))).size + (bs gd).size := by omega
      clear hs6 hsz
      generalize bs (gd ++ tabTx (zs.take k)) = t at HN hnl
      generalize bs gd = d6 at HN hnl
      go_wp2
      go_ret
      exact ⟨ret_str HN.out, hbw⟩
set_option maxRecDepth 100000 in
set_option maxHeartbeats 1000000 in
theorem l02Text (g : Int) (A : Option Addr) (n c : Nat) (zs : List Int) (w : World) (hl : zs.length = n) (hn : n ≤ 17) (hg : 0 ≤ g ∧ g ≤ 999999) (hz : ∀ z ∈ zs, 0 ≤ z ∧ z ≤ 99) (h : IntL w A zs) :
    Calls Try.prog 80 #[.agg #[.int .i64 g, .slice A n c]] w fun e w' => e = .returned (.string (rootTx g zs)) ∧ Below w.heap.size w w' := by
  obtain ⟨gn, rfl⟩ : ∃ gn : Nat, g = gn := ⟨g.toNat, by omega⟩
  have hb0 := alloc_below w (.cells #[.int .i64 gn, .slice A n c] 49)
  have X := Box.new w 49 #[.int .i64 (gn : Int), .slice A n c]
  have HD6 := Lib.hid (fun W => l02Digits 5 gn W (by omega) (by omega))
  rw [show ((5 + 1 : Nat) : Int) = 6 from rfl, show 5 + 1 = 6 from rfl] at HD6
  have HT : Hid (rootTx gn zs = bs (digs 6 gn ++ tabTx zs ++ digs 6 gn)) := Lib.hid (by unfold rootTx; rw [Int.toNat_natCast])
  have HLd := Lib.hid (digs_len 6 gn)
  generalize digs 6 gn = gd at HD6 HT HLd
  have HL := Lib.hid hl
  have H := Lib.hid h
  have HZ := Lib.hid hz
  clear hl h hz hg
  go_enter Try.func80, Try.ntmps80
  go_wp2_with fail
  refine (HD6.out _).mono ?_
  rintro e w1 ⟨rfl, hb1⟩
  have X1 := X.step hb1
  have HX1 := Lib.hid X1
  have hb := bt hb0 hb1
  clear hb0 hb1 X X1
  go_wp2
  go_loopw [4, 3] (fun i t wr => ∃ k : Nat, k ≤ n ∧ i = .int .i64 k ∧ t = .string (bs (gd ++ tabTx (zs.take k))) ∧ Below w.heap.size w wr ∧ Hid (Box wr w.heap.size 49 #[.int .i64 (gn : Int), .slice A n c])) (fun i _ _ => n - (intOf i).toNat)
  case atStart => exact ⟨0, Nat.zero_le _, rfl, by simp [tabTx], hb, HX1⟩
  case round =>
    obtain ⟨k, hk, rfl, rfl, hbw, HX⟩ := hrel
    have f0 := HX.out.cell 0 rfl
    have f1 := HX.out.cell 1 rfl
    have hsz : (bs (gd ++ tabTx (zs.take k))).size ≤ 40 := by
      rw [bs_size, List.length_append, HLd.out, tabTx_len, List.length_take]; omega
    by_cases hlt : k < n
    · obtain ⟨b, off, rfl, hc⟩ := (H.out.below hbw) k (by rw [HL.out]; exact hlt)
      have hzk : 0 ≤ zs.getD k 0 ∧ zs.getD k 0 ≤ 99 := HZ.out _ (by rw [List.getD_eq_getElem?_getD, List.getElem?_eq_getElem (by rw [HL.out]; exact hlt)]; exact List.getElem_mem _)
      have HS := Lib.hid (tabTx_step zs k (by rw [HL.out]; exact hlt))
      generalize zs.getD k 0 = z at hc HS hzk
      obtain ⟨zn, rfl⟩ : ∃ zn : Nat, z = zn := ⟨z.toNat, by omega⟩
      rw [Int.toNat_natCast] at HS
      have HD2 := Lib.hid (fun W => l02Digits 1 zn W (by omega) (by omega))
      rw [show ((1 + 1 : Nat) : Int) = 2 from rfl, show 1 + 1 = 2 from rfl] at HD2
      have hs2 : (bs (digs 2 zn)).size = 2 := by rw [bs_size, digs_len]
      have HN : Hid (bs (gd ++ tabTx (zs.take k)) ++ bs (digs 2 zn) = bs (gd ++ tabTx (zs.take (k + 1)))) := Lib.hid (by rw [bs_app, HS.out, List.append_assoc])
      have hnl : ¬ 9223372036854775807 < (bs (gd ++ tabTx (zs.take k))).size + (bs (digs 2 zn)).size := by omega
      have hi : (k : Int) < (n : Int) := by omega
      clear hs2 hsz
      generalize bs (digs 2 zn) = d2 at HD2 HN hnl
      generalize bs (gd ++ tabTx (zs.take k)) = t at HN hnl
      go_wp2_with fail
      refine (HD2.out _).mono ?_
      rintro e w2 ⟨rfl, hb2⟩
      go_wp2
      go_roundw
      case rel => exact ⟨k + 1, by omega, by go_num, by rw [HN.out], bt hbw hb2, Lib.hid (HX.out.step hb2)⟩
      case measure => simp [intOf]; omega
    · have hs6 : (bs gd).size = 6 := by rw [bs_size, HLd.out]
      have HN : Hid (bs (gd ++ tabTx (zs.take k)) ++ bs gd = rootTx gn zs) := Lib.hid (by rw [bs_app, HT.out, List.take_of_length_le (by rw [HL.out]; omega)])
      have hnl : ¬ 9223372036854775807 < (bs (gd ++ tabTx (zs.take k))).size + (bs gd).size := by omega
      clear hs6 hsz
      generalize bs (gd ++ tabTx (zs.take k)) = t at HN hnl
      generalize bs gd = d6 at HN hnl HD6
      go_wp2_with fail
      refine (HD6.out _).mono ?_
      rintro e w2 ⟨rfl, hb2⟩
      go_wp2
      go_ret
      exact ⟨ret_str HN.out, bt hbw hb2⟩

/-- What RootText answers. -/
def rtOf (g : Int) (zs : List Int) : ByteArray × Int := if rootB g zs = true then (rootTx g zs, 0) else (ByteArray.empty, 1)
theorem rootB_facts {g : Int} {zs : List Int} (h : rootB g zs = true) : (0 ≤ g ∧ g ≤ 999999) ∧ zs.length = 17 ∧ ∀ z ∈ zs, 0 ≤ z ∧ z ≤ 99 := by
  unfold rootB at h
  simp only [Bool.and_eq_true, decide_eq_true_eq, List.all_eq_true] at h
  obtain ⟨⟨⟨h1, h2⟩, h3⟩, _⟩ := h
  refine ⟨by omega, h2, fun z hz => ?_⟩
  have := h3 z hz
  unfold pageB at this
  simp only [decide_eq_true_eq] at this
  omega

end Go.Proofs.Ytlfmniekbiffjaa

/- What a commit's plan is, and its facts: free sectors do not run out, the next table is a good one. -/
namespace Go.Proofs.Ytlfmniekbiffjaa

theorem frN_held (zs : List Int) : ∀ j : Nat, (frN zs j).length + ((List.range j).filter fun i => decide (((i + 2 : Nat) : Int) ∈ zs)).length = j
  | 0 => rfl
  | j + 1 => by
    have ih := frN_held zs j
    rw [frN, List.range_succ, List.filter_append, List.length_append, List.length_append]
    by_cases h : ((j + 2 : Nat) : Int) ∈ zs
    · rw [if_pos h, List.filter_cons_of_pos (by exact decide_eq_true h)]; simp only [List.filter_nil, List.length_nil, List.length_cons] at ih ⊢; omega
    · rw [if_neg h, List.filter_cons_of_neg (by simpa using h)]; simp only [List.filter_nil, List.length_nil, List.length_cons] at ih ⊢; omega
theorem freeL_len (zs : List Int) (h : zs.length = 17) : 29 ≤ (freeL zs).length ∧ (freeL zs).length ≤ 46 := by
  have h1 := frN_held zs 46
  have h2 := held_le zs 46
  have h3 := frN_len zs 46
  unfold freeL
  omega
theorem frN_in_range (zs : List Int) : ∀ j : Nat, ∀ z ∈ frN zs j, 2 ≤ z ∧ z < (j : Int) + 2
  | 0, z, h => by cases h
  | j + 1, z, h => by
    rw [frN] at h
    rcases List.mem_append.1 h with h | h
    · have := frN_in_range zs j z h; omega
    · split at h
      · cases h
      · simp at h; omega
theorem freeL_in (zs : List Int) : ∀ z ∈ freeL zs, 2 ≤ z ∧ z ≤ 47 := fun z h => by have := frN_in_range zs 46 z h; omega
theorem getD_in {zs : List Int} {i : Nat} (h : i < zs.length) {P : Int → Prop} (hp : ∀ z ∈ zs, P z) : P (zs.getD i 0) := by
  rw [List.getD_eq_getElem?_getD, List.getElem?_eq_getElem h]; exact hp _ (List.getElem_mem _)
theorem withN_in (zs places free : List Int) (hz : ∀ z ∈ zs, 2 ≤ z ∧ z ≤ 47) (hf : ∀ z ∈ free, 2 ≤ z ∧ z ≤ 47) : ∀ i, i ≤ free.length → ∀ z ∈ withN zs places free i, 2 ≤ z ∧ z ≤ 47
  | 0, _, z, h => hz z h
  | i + 1, hi, z, h => by
    rw [withN] at h
    rcases List.mem_or_eq_of_mem_set h with h | h
    · exact withN_in zs places free hz hf i (by omega) z h
    · subst h; exact getD_in (by omega) hf
theorem rd_gen (t : ByteArray) (h : rdC t = 0) : 1 ≤ rdG t ∧ rdG t ≤ 999999 := by
  unfold rdC at h
  unfold rdG
  split at h
  · omega
  · rename_i h1
    rw [if_neg h1]
    split at h
    · rename_i hb
      rw [if_pos hb]
      unfold rdB at hb
      simp only [Bool.and_eq_true] at hb
      have hr := hb.2.2.2
      unfold rootB at hr
      simp only [Bool.and_eq_true] at hr
      have := hr.1.1
      simp at this
      omega
    · omega
theorem best_gen (t : Nat → ByteArray) : ∀ k, (best t k).c = 0 → 1 ≤ (best t k).g ∧ (best t k).g ≤ 999999 ∧ 0 ≤ (best t k).s ∧ (best t k).s < (k : Int)
  | 0, h => by simp [best] at h
  | k + 1, h => by
    rw [best] at h ⊢
    split
    · rename_i hq
      have := rd_gen _ hq.1
      exact ⟨this.1, this.2, by show (0 : Int) ≤ (k : Int); omega, by show (k : Int) < _; omega⟩
    · rename_i hq
      rw [if_neg hq] at h
      have := best_gen t k h
      omega

/-- The plan: the writes, that of the root last, and the code. -/
def planOf (ss ps : List ByteArray) : List (Int × ByteArray) × Int :=
  let b := best (fun k => readS ss [] k) 2
  if b.c ≠ 0 then ([], b.c) else if b.g = 999999 then ([], 7) else
  let pl := diffN ps (loadL ss [] b.z) 17
  if pl.length = 0 then ([], 0) else
  (writesN pl (freeL b.z) ps pl.length ++ [(1 - b.s, rootTx (b.g + 1) (withN b.z pl (freeL b.z) pl.length))], 0)
end Go.Proofs.Ytlfmniekbiffjaa

/- Contracts of checkPages and l02Pages. -/
namespace Go.Proofs.Ytlfmniekbiffjaa
open Go.RowKit

/-- The code of some pages. -/
def pagesC (ss : List ByteArray) : Int := if 4096 < ss.length then 2 else if ss.length ≠ 17 then 8 else if ss.all okSt = true then 0 else 8

set_option maxRecDepth 100000 in
set_option maxHeartbeats 1000000 in
theorem checkPages (A : Option Addr) (n c : Nat) (ss : List ByteArray) (w : World) (hl : ss.length = n) (hn : n ≤ maxLen) (h : StrL w A ss) (fs : FitS ss) :
    Calls Try.prog 70 #[.slice A n c] w fun e w' => e = .returned (.int .i64 (pagesC ss)) ∧ w = w' := by
  unfold maxLen at hn
  by_cases h1 : 4096 < n
  · have HV : Hid (pagesC ss = 2) := Lib.hid (by unfold pagesC; rw [if_pos (by rw [hl]; exact h1)])
    have h1' : (4096 : Int) < (n : Int) := by omega
    clear h fs hl h1
    go_enter Try.func70, Try.ntmps70
    go_wp2
    go_ret
    exact ⟨ret_int HV.out.symm, rfl⟩
  have h1' : ¬ (4096 : Int) < (n : Int) := by omega
  by_cases h2 : n = 17
  · have h2b : ((n : Int) != 17) = false := by rw [h2]; rfl
    have HV : Hid (pagesC ss = if ss.all okSt = true then 0 else 8) := Lib.hid (by unfold pagesC; rw [if_neg (by rw [hl]; exact h1), if_neg (by rw [hl, h2]; simp)])
    have HL := Lib.hid hl
    have H := Lib.hid h
    have HF := Lib.hid fs
    have h17 : n ≤ 17 := by omega
    clear hl h fs h1 h2
    go_enter Try.func70, Try.ntmps70
    go_wp2
    go_loop [13] (fun i => ∃ k : Nat, k ≤ n ∧ i = .int .i64 k ∧ Hid (ss.all okSt = (ss.drop k).all okSt)) (fun i => n - (intOf i).toNat)
    case atStart => exact ⟨0, Nat.zero_le _, rfl, Lib.hid rfl⟩
    case round =>
      obtain ⟨k, hk, rfl, HT⟩ := hrel
      by_cases hlt : k < n
      · obtain ⟨b, off, rfl, hc⟩ := H.out k (by rw [HL.out]; exact hlt)
        have HS := Lib.hid (all_step okSt ss ByteArray.empty k (by rw [HL.out]; exact hlt))
        have hx := HF.out.at_ k (by rw [HL.out]; exact hlt)
        generalize ss.getD k ByteArray.empty = x at hc HS hx
        unfold maxLen at hx
        have hi : (k : Int) < (n : Int) := by omega
        by_cases hE : 100 < x.size
        · have hE' : (100 : Int) < (x.size : Int) := by omega
          have HE : Hid (okSt x = false) := Lib.hid (by unfold okSt; exact decide_eq_false (by omega))
          clear hE
          go_wp2
          go_ret
          exact ⟨ret_int (by rw [HV.out, HT.out, HS.out, HE.out]; rfl), rfl⟩
        · have hE' : ¬ (100 : Int) < (x.size : Int) := by omega
          have HE : Hid (okSt x = true) := Lib.hid (by unfold okSt; exact decide_eq_true (by omega))
          clear hE
          go_wp2
          go_round
          case rel => exact ⟨k + 1, by omega, by go_num, Lib.hid (by rw [HT.out, HS.out, HE.out]; rfl)⟩
          case measure => simp [intOf]; omega
      · go_wp2
        go_ret
        exact ⟨ret_int (by rw [HV.out, HT.out, all_end _ _ _ (by rw [HL.out]; omega)]; rfl), rfl⟩
  · have h2b : ((n : Int) != 17) = true := by simp; omega
    have HV : Hid (pagesC ss = 8) := Lib.hid (by unfold pagesC; rw [if_neg (by rw [hl]; exact h1), if_pos (by rw [hl]; exact h2)])
    clear h fs hl h1
    go_enter Try.func70, Try.ntmps70
    go_wp2
    go_ret
    exact ⟨ret_int HV.out.symm, rfl⟩

set_option maxRecDepth 100000 in
set_option maxHeartbeats 1000000 in
theorem l02Pages (A : Option Addr) (n c : Nat) (ss : List ByteArray) (w : World) (hl : ss.length = n) (hn : n ≤ maxLen) (h : StrL w A ss) (fs : FitS ss) :
    Calls Try.prog 75 #[.slice A n c] w fun e w' => e = .returned (.int .i64 (pagesC ss)) ∧ w = w' := by
  unfold maxLen at hn
  by_cases h1 : 4096 < n
  · have HV : Hid (pagesC ss = 2) := Lib.hid (by unfold pagesC; rw [if_pos (by rw [hl]; exact h1)])
    have h1' : (4096 : Int) < (n : Int) := by omega
    clear h fs hl h1
    go_enter Try.func75, Try.ntmps75
    go_wp2
    go_ret
    exact ⟨ret_int HV.out.symm, rfl⟩
  have h1' : ¬ (4096 : Int) < (n : Int) := by omega
  by_cases h2 : n = 17
  · have h2b : ((n : Int) != 17) = false := by rw [h2]; rfl
    have HV : Hid (pagesC ss = if ss.all okSt = true then 0 else 8) := Lib.hid (by unfold pagesC; rw [if_neg (by rw [hl]; exact h1), if_neg (by rw [hl, h2]; simp)])
    have HL := Lib.hid hl
    have H := Lib.hid h
    have HF := Lib.hid fs
    have h17 : n ≤ 17 := by omega
    clear hl h fs h1 h2
    go_enter Try.func75, Try.ntmps75
    go_wp2
    go_loop [3] (fun i => ∃ k : Nat, k ≤ n ∧ i = .int .i64 k ∧ Hid (ss.all okSt = (ss.drop k).all okSt)) (fun i => n - (intOf i).toNat)
    case atStart => exact ⟨0, Nat.zero_le _, rfl, Lib.hid rfl⟩
    case round =>
      obtain ⟨k, hk, rfl, HT⟩ := hrel
      by_cases hlt : k < n
      · obtain ⟨b, off, rfl, hc⟩ := H.out k (by rw [HL.out]; exact hlt)
        have HS := Lib.hid (all_step okSt ss ByteArray.empty k (by rw [HL.out]; exact hlt))
        have hx := HF.out.at_ k (by rw [HL.out]; exact hlt)
        generalize ss.getD k ByteArray.empty = x at hc HS hx
        unfold maxLen at hx
        have hi : (k : Int) < (n : Int) := by omega
        by_cases hE : 100 < x.size
        · have hE' : (100 : Int) < (x.size : Int) := by omega
          have HE : Hid (okSt x = false) := Lib.hid (by unfold okSt; exact decide_eq_false (by omega))
          clear hE
          go_wp2
          go_ret
          exact ⟨ret_int (by rw [HV.out, HT.out, HS.out, HE.out]; rfl), rfl⟩
        · have hE' : ¬ (100 : Int) < (x.size : Int) := by omega
          have HE : Hid (okSt x = true) := Lib.hid (by unfold okSt; exact decide_eq_true (by omega))
          clear hE
          go_wp2
          go_round
          case rel => exact ⟨k + 1, by omega, by go_num, Lib.hid (by rw [HT.out, HS.out, HE.out]; rfl)⟩
          case measure => simp [intOf]; omega
      · go_wp2
        go_ret
        exact ⟨ret_int (by rw [HV.out, HT.out, all_end _ _ _ (by rw [HL.out]; omega)]; rfl), rfl⟩
  · have h2b : ((n : Int) != 17) = true := by simp; omega
    have HV : Hid (pagesC ss = 8) := Lib.hid (by unfold pagesC; rw [if_neg (by rw [hl]; exact h1), if_pos (by rw [hl]; exact h2)])
    clear h fs hl h1
    go_enter Try.func75, Try.ntmps75
    go_wp2
    go_ret
    exact ⟨ret_int HV.out.symm, rfl⟩
end Go.Proofs.Ytlfmniekbiffjaa

/- The codes that come first: impl.checkCommit, spec.l02Ask. -/
namespace Go.Proofs.Ytlfmniekbiffjaa
open Go.RowKit

def askC (ps ss : List ByteArray) (ws : List (Int × ByteArray)) : Int := if pagesC ps ≠ 0 then pagesC ps else if okDisk ss ws = true ∧ ws.length = 0 then 0 else 1

set_option maxRecDepth 100000 in
set_option maxHeartbeats 1000000 in
theorem checkCommit (A C P : Option Addr) (n c m d k f : Nat) (ss ps : List ByteArray) (ws : List (Int × ByteArray)) (w : World) (hl : ss.length = n) (hm : ws.length = m) (hk : ps.length = k) (hn : n ≤ maxLen) (hmm : m ≤ maxLen) (hkk : k ≤ maxLen) (h : StrL w A ss) (g : WrL w C ws) (i : StrL w P ps) (fs : FitS ss) (fw : FitW ws) (fp : FitS ps) :
    Calls Try.prog 44 #[.agg #[.slice A n c, .slice C m d], .slice P k f] w fun e w' => e = .returned (.int .i64 (askC ps ss ws)) ∧ Below w.heap.size w w' := by
  obtain ⟨W0, hW0⟩ : ∃ W0, W0 = w.alloc (.cells #[.slice A n c, .slice C m d] 30) := ⟨_, rfl⟩
  have hb0 : Below w.heap.size w W0 := by rw [hW0]; exact alloc_below _ _
  have X0 : Box W0 w.heap.size 30 #[.slice A n c, .slice C m d] := by rw [hW0]; exact Box.new _ _ _
  have HP := Lib.hid (checkPages P k f ps W0 hk hkk (i.below hb0) fp)
  have HV := Lib.hid (diskValid A C n c m d ss ws W0 hl hm hn hmm (h.below hb0) (g.below hb0) fs fw)
  have HA : Hid (askC ps ss ws = if pagesC ps ≠ 0 then pagesC ps else if okDisk ss ws = true ∧ m = 0 then 0 else 1) := Lib.hid (by unfold askC; rw [hm])
  have HW0 := Lib.hid hW0
  generalize pagesC ps = z at HP HA
  generalize okDisk ss ws = q at HV HA
  have x0 := X0.cell 0 rfl
  have x1 := X0.cell 1 rfl
  have HX := Lib.hid X0
  clear hl hm hk hn hmm hkk h g i fs fw fp hW0 X0
  go_enter Try.func44, Try.ntmps44
  go_wp2_with fail
  rw [← HW0.out]
  refine HP.out.mono ?_
  rintro e w1 ⟨rfl, rfl⟩
  by_cases hz : z = 0
  · subst hz
    go_wp2_with fail
    refine HV.out.mono ?_
    rintro e w2 ⟨rfl, hb2⟩
    have X2 := HX.out.step hb2
    have y1 := X2.cell 1 rfl
    have HB := Lib.hid (bt hb0 hb2)
    clear X2 hb2 hb0 x0 x1
    cases q
    · go_wp2
      go_ret
      exact ⟨by rw [HA.out]; rfl, HB.out⟩
    · by_cases hm0 : m = 0
      · subst hm0
        go_wp2
        go_ret
        exact ⟨by rw [HA.out]; rfl, HB.out⟩
      · have hm1 : ((m : Int) != 0) = true := by simp [bne]; omega
        have HM := Lib.hid hm0
        clear hm0
        go_wp2
        go_ret
        exact ⟨by rw [HA.out, if_neg (by simp), if_neg (fun q => HM.out q.2)]; rfl, HB.out⟩
  · have HZ := Lib.hid hz
    have hzb : (z != 0) = true := by simp [bne]; exact hz
    clear hz
    go_wp2
    go_ret
    exact ⟨by rw [HA.out, if_pos HZ.out]; rfl, hb0⟩

set_option maxRecDepth 100000 in
set_option maxHeartbeats 1000000 in
theorem specAsk (A C P : Option Addr) (n c m d k f : Nat) (ss ps : List ByteArray) (ws : List (Int × ByteArray)) (w : World) (hl : ss.length = n) (hm : ws.length = m) (hk : ps.length = k) (hn : n ≤ maxLen) (hmm : m ≤ maxLen) (hkk : k ≤ maxLen) (h : StrL w A ss) (g : WrL w C ws) (i : StrL w P ps) (fs : FitS ss) (fw : FitW ws) (fp : FitS ps) :
    Calls Try.prog 39 #[.agg #[.slice A n c, .slice C m d], .slice P k f] w fun e w' => e = .returned (.int .i64 (askC ps ss ws)) ∧ Below w.heap.size w w' := by
  obtain ⟨W0, hW0⟩ : ∃ W0, W0 = w.alloc (.cells #[.slice A n c, .slice C m d] 30) := ⟨_, rfl⟩
  have hb0 : Below w.heap.size w W0 := by rw [hW0]; exact alloc_below _ _
  have X0 : Box W0 w.heap.size 30 #[.slice A n c, .slice C m d] := by rw [hW0]; exact Box.new _ _ _
  have HP := Lib.hid (l02Pages P k f ps W0 hk hkk (i.below hb0) fp)
  have HV := Lib.hid (specDiskOK A C n c m d ss ws W0 hl hm hn hmm (h.below hb0) (g.below hb0) fs fw)
  have HA : Hid (askC ps ss ws = if pagesC ps ≠ 0 then pagesC ps else if okDisk ss ws = true ∧ m = 0 then 0 else 1) := Lib.hid (by unfold askC; rw [hm])
  have HW0 := Lib.hid hW0
  generalize pagesC ps = z at HP HA
  generalize okDisk ss ws = q at HV HA
  have x0 := X0.cell 0 rfl
  have x1 := X0.cell 1 rfl
  have HX := Lib.hid X0
  clear hl hm hk hn hmm hkk h g i fs fw fp hW0 X0
  go_enter Try.func39, Try.ntmps39
  go_wp2_with fail
  rw [← HW0.out]
  refine HP.out.mono ?_
  rintro e w1 ⟨rfl, rfl⟩
  by_cases hz : z = 0
  · subst hz
    go_wp2_with fail
    refine HV.out.mono ?_
    rintro e w2 ⟨rfl, hb2⟩
    have X2 := HX.out.step hb2
    have y1 := X2.cell 1 rfl
    have HB := Lib.hid (bt hb0 hb2)
    clear X2 hb2 hb0 x0 x1
    cases q
    · go_wp2
      go_ret
      exact ⟨by rw [HA.out]; rfl, HB.out⟩
    · by_cases hm0 : m = 0
      · subst hm0
        go_wp2
        go_ret
        exact ⟨by rw [HA.out]; rfl, HB.out⟩
      · have hm1 : (0 : Int) < (m : Int) := by omega
        have HM := Lib.hid hm0
        clear hm0
        go_wp2
        go_ret
        exact ⟨by rw [HA.out, if_neg (by simp), if_neg (fun q => HM.out q.2)]; rfl, HB.out⟩
  · have HZ := Lib.hid hz
    have hzb : (z != 0) = true := by simp [bne]; exact hz
    clear hz
    go_wp2
    go_ret
    exact ⟨by rw [HA.out, if_pos HZ.out]; rfl, hb0⟩
end Go.Proofs.Ytlfmniekbiffjaa

/- Contracts of sectors, fateOf, tear, settle: what a crash makes of a disk. -/
namespace Go.Proofs.Ytlfmniekbiffjaa
open Go.RowKit

/-- n empty strings, as cells. -/
def zS (n : Nat) : List Value := List.replicate n (.string ByteArray.empty)
theorem zS_len (n : Nat) : (zS n).length = n := by unfold zS; rw [List.length_replicate]
theorem made_zS (n : Nat) : madeCells #[.string ByteArray.empty] n = (zS n).toArray := by
  apply Array.ext
  · simp [size_madeCells, zS_len]
  · intro i h1 h2
    simp [madeCells, zS, Nat.mod_one]
set_option maxRecDepth 100000 in
theorem makeS (n : Nat) (hn : n ≤ 1048576) (W : World) : (Instr.makeSlice 22 (.int .i64 (n : Int)) (.int .i64 (n : Int))).run Try.prog W = .ok (.slice (some ⟨W.heap.size, 0, none⟩) n n) (W.alloc (.cells (zS n).toArray 9)) := by
  rw [← made_zS]
  exact run_make_row' (P := Try.prog) 22 9 (.string ByteArray.empty) 16 Try.underlying22 infoS rfl .i64 .i64 n (by omega) (by omega) W
set_option maxRecDepth 100000 in
theorem szStr : (Try.prog.info? 9).map (·.size) = some 1 := by kernel_rfl
theorem row_of_list {w : World} {b : Nat} {t : TypeId} {n : Nat} {ss : List ByteArray} (hl : ss.length = n) (h : w.heap[b]? = some (.cells (ss.map Value.string).toArray t (0, 0))) : w.rowIs b t n (fun i => .string (ss.getD i ByteArray.empty)) :=
  ⟨_, h, by simp [hl], fun i hi => by
    have hi' : i < ss.length := by omega
    simp [List.getD_eq_getElem?_getD, hi']⟩

/-- The cells of a slice of strings. -/
def cellsS (ss : List ByteArray) : List Value := ss.map Value.string
theorem cellsS_len (ss : List ByteArray) : (cellsS ss).length = ss.length := by simp [cellsS]
theorem cellsS_one (ss : List ByteArray) : ∀ v ∈ cellsS ss, v.oneCell' = true := fun v hv => by
  obtain ⟨s, _, rfl⟩ := List.mem_map.1 hv
  rfl
theorem StrL.src {w : World} {A : Option Addr} {ss : List ByteArray} (h : StrL w A ss) (hp : 0 < (cellsS ss).length) : ∃ ad, A = some ad ∧ ∀ j v, (cellsS ss)[j]? = some v → w.cell? (ad.add j) = some v := by
  rw [cellsS_len] at hp
  obtain ⟨b, off, e, _⟩ := h 0 hp
  refine ⟨⟨b, off, none⟩, e, fun j v hj => ?_⟩
  have hj' : j < ss.length := by have := (List.getElem?_eq_some_iff.1 hj).1; simpa [cellsS] using this
  obtain ⟨b', off', e', hc⟩ := h j hj'
  rw [e] at e'
  injection e' with e'
  injection e' with e1 e2
  subst e1 e2
  have hv : v = Value.string (ss.getD j ByteArray.empty) := by
    unfold cellsS at hj
    rw [List.getElem?_map, List.getElem?_eq_getElem hj', Option.map_some] at hj
    rw [List.getD_eq_getElem?_getD, List.getElem?_eq_getElem hj']
    exact (Option.some.inj hj).symm
  rw [hv, ← hc]
  unfold Addr.add
  by_cases h0 : j = 0
  · subst h0; simp
  · rw [if_neg h0]

set_option maxRecDepth 100000 in
set_option maxHeartbeats 1000000 in
theorem sectors (A C : Option Addr) (n c m d : Nat) (ss : List ByteArray) (w : World) (hl : ss.length = n) (hn : n ≤ 1048576) (h : StrL w A ss) :
    Calls Try.prog 87 #[.agg #[.slice A n c, .slice C m d]] w fun e w' => e = .returned (.slice (some ⟨w.heap.size + 1, 0, none⟩) n n) ∧ Below w.heap.size w w' ∧ Hid (w'.rowIs (w.heap.size + 1) 9 n (fun i => .string (ss.getD i ByteArray.empty))) := by
  have hmk := makeS n hn
  have hb0 : Below w.heap.size w ((w.alloc (.cells #[.slice A n c, .slice C m d] 30)).alloc (.cells (zS n).toArray 9)) := ((Below.refl _ _).alloc (Nat.le_refl _) _).alloc (by simp) _
  have HP := Lib.hid (fun hp => (h.below hb0).src hp)
  have HL := Lib.hid hl
  have HN : Hid ((cellsS ss).length = n) := Lib.hid (by rw [cellsS_len]; exact hl)
  have hg : Hid (((w.alloc (.cells #[.slice A n c, .slice C m d] 30)).alloc (.cells (zS n).toArray 9)).heap[w.heap.size + 1]? = some (.cells (zS n).toArray 9 (0, 0))) := Lib.hid (by
    have := Box.new (w.alloc (.cells #[.slice A n c, .slice C m d] 30)) 9 (zS n).toArray
    rw [World.size_alloc] at this
    exact this)
  clear h hl
  go_enter Try.func87, Try.ntmps87
  go_wp2_with (with_reducible refine wpList_copy_splice rfl (.tmp 8) (.tmp 10) 22 22 rfl 9 Try.underlying22 szStr _ _ n n n c rfl rfl (w.heap.size + 1) 0 (zS n) 9 hg.out (cellsS ss) ?h1 ?h2 ?h3 ?h4 w.heap.size w hb0 (by omega) ?_)
  case h1 => rw [HN.out]; simp
  case h2 => first | exact fun hp => ⟨rfl, HP.out hp⟩ | exact fun hp => HP.out hp
  case h3 => rw [HN.out, zS_len]; omega
  case h4 => exact cellsS_one ss
  intro w2 hg2 hb2
  have HR : Hid (w2.rowIs (w.heap.size + 1) 9 n (fun i => .string (ss.getD i ByteArray.empty))) := Lib.hid (by
    refine row_of_list HL.out ?_
    have := hg2.out
    rw [show splice (zS n) 0 (cellsS ss) = ss.map Value.string from by
      unfold splice
      rw [HN.out, List.drop_of_length_le (by rw [zS_len]; omega)]; simp [cellsS]] at this
    exact this)
  clear hg2 hg hmk
  go_wp2
  go_ret
  exact ⟨rfl, hb2, HR⟩

/-- The fate of write i. -/
def fateAt (fates : List Int) (i : Nat) : Int := if fates.length = 0 then 0 else fates.getD (i % fates.length) 0

set_option maxRecDepth 100000 in
theorem fateOf (A : Option Addr) (n c : Nat) (fs : List Int) (i : Nat) (w : World) (hl : fs.length = n) (hn : n ≤ maxLen) (hi : i ≤ 1048576) (h : IntL w A fs) :
    Calls Try.prog 106 #[.slice A n c, .int .i64 i] w fun e w' => e = .returned (.int .i64 (fateAt fs i)) ∧ w = w' := by
  unfold maxLen at hn
  by_cases h0 : n = 0
  · have hb : ((n : Int) == 0) = true := by simp; omega
    have HF : Hid (fateAt fs i = 0) := Lib.hid (by unfold fateAt; rw [if_pos (by omega)])
    clear h0 hl h
    go_enter Try.func106, Try.ntmps106
    go_wp2
    go_ret
    exact ⟨ret_int HF.out.symm, rfl⟩
  · have hb : ((n : Int) == 0) = false := by simp; omega
    have HF : Hid (fateAt fs i = fs.getD (i % n) 0) := Lib.hid (by unfold fateAt; rw [if_neg (by omega), hl])
    have hlt : i % n < n := Nat.mod_lt _ (by omega)
    obtain ⟨b, off, rfl, hc⟩ := h (i % n) (by omega)
    generalize fs.getD (i % n) 0 = z at hc HF
    have hn0 : ¬ (n : Int) = 0 := by omega
    clear hl h h0
    go_enter Try.func106, Try.ntmps106
    go_wp2
    go_ret
    exact ⟨ret_int HF.out.symm, rfl⟩

/-- A torn write: the first half of the data, then what was there behind it. -/
def tearOf (old data : ByteArray) : ByteArray := if old.size ≤ data.size / 2 then data.extract 0 (data.size / 2) else data.extract 0 (data.size / 2) ++ old.extract (data.size / 2) old.size

set_option maxRecDepth 100000 in
theorem tear (old data : ByteArray) (w : World) (h1 : old.size ≤ 100) (h2 : data.size ≤ 100) :
    Calls Try.prog 107 #[.string old, .string data] w fun e w' => e = .returned (.string (tearOf old data)) ∧ Below w.heap.size w w' := by
  by_cases h : old.size ≤ data.size / 2
  · have HF : Hid (tearOf old data = data.extract 0 (data.size / 2)) := Lib.hid (by unfold tearOf; rw [if_pos h])
    go_enter Try.func107, Try.ntmps107
    go_wp2
    go_ret
    exact ⟨by rw [HF.out]; rfl, Below.refl _ _⟩
  · have HF : Hid (tearOf old data = data.extract 0 (data.size / 2) ++ old.extract (data.size / 2) old.size) := Lib.hid (by unfold tearOf; rw [if_neg h])
    go_enter Try.func107, Try.ntmps107
    go_wp2
    go_quiet (fail)
    go_wp2
    go_ret
    exact ⟨by rw [HF.out]; rfl, below_drewN (Below.refl _ _) _⟩

/-- What write k makes of the sectors. -/
def stepF (fates : List Int) (k : Nat) (ss : List ByteArray) (x : Int × ByteArray) : List ByteArray :=
  if fateAt fates k = 1 then ss.set x.1.toNat x.2 else if fateAt fates k = 2 then ss.set x.1.toNat (tearOf (ss.getD x.1.toNat ByteArray.empty) x.2) else ss
/-- The sectors behind the first k writes. -/
def settleN (ss : List ByteArray) (ws : List (Int × ByteArray)) (fates : List Int) : Nat → List ByteArray
  | 0 => ss
  | k + 1 => stepF fates k (settleN ss ws fates k) (ws.getD k (0, ByteArray.empty))

theorem stepF_len (fates : List Int) (k : Nat) (ss : List ByteArray) (x : Int × ByteArray) : (stepF fates k ss x).length = ss.length := by
  unfold stepF; split
  · simp
  · split <;> simp
theorem settleN_len (ss : List ByteArray) (ws : List (Int × ByteArray)) (fates : List Int) (k : Nat) : (settleN ss ws fates k).length = ss.length := by
  induction k with
  | zero => rfl
  | succ k ih => rw [settleN, stepF_len, ih]
theorem extract_size (s : ByteArray) (a b : Nat) : (s.extract a b).size = min b s.size - a := by simp [ByteArray.size_extract]
theorem tearOf_size (old data : ByteArray) (h1 : old.size ≤ 100) (h2 : data.size ≤ 100) : (tearOf old data).size ≤ 100 := by
  unfold tearOf
  split
  · rw [extract_size]; omega
  · rw [ByteArray.size_append, extract_size, extract_size]; omega
theorem stepF_small (fates : List Int) (k : Nat) (ss : List ByteArray) (x : Int × ByteArray) (h : ∀ s ∈ ss, s.size ≤ 100) (hx : x.2.size ≤ 100) : ∀ s ∈ stepF fates k ss x, s.size ≤ 100 := by
  intro s hs
  unfold stepF at hs
  have hg : (ss.getD x.1.toNat ByteArray.empty).size ≤ 100 := by
    rw [List.getD_eq_getElem?_getD]
    rcases Nat.lt_or_ge x.1.toNat ss.length with hlt | hge
    · rw [List.getElem?_eq_getElem hlt]; exact h _ (List.getElem_mem _)
    · rw [List.getElem?_eq_none hge]; exact Nat.zero_le _
  split at hs
  · rcases List.mem_or_eq_of_mem_set hs with h1 | h1
    · exact h s h1
    · rw [h1]; exact hx
  · split at hs
    · rcases List.mem_or_eq_of_mem_set hs with h1 | h1
      · exact h s h1
      · rw [h1]; exact tearOf_size _ _ hg hx
    · exact h s hs
theorem settleN_small (ss : List ByteArray) (ws : List (Int × ByteArray)) (fates : List Int) (h : ∀ s ∈ ss, s.size ≤ 100) (hw : ∀ x ∈ ws, x.2.size ≤ 100) (k : Nat) (hk : k ≤ ws.length) : ∀ s ∈ settleN ss ws fates k, s.size ≤ 100 := by
  induction k with
  | zero => exact h
  | succ k ih =>
    rw [settleN]
    refine stepF_small fates k _ _ (ih (by omega)) (hw _ ?_)
    rw [List.getD_eq_getElem?_getD, List.getElem?_eq_getElem (by omega)]; exact List.getElem_mem _
theorem getD_set (l : List ByteArray) (p j : Nat) (x : ByteArray) (h : p < l.length) : (l.set p x).getD j ByteArray.empty = if j = p then x else l.getD j ByteArray.empty := by
  simp only [List.getD_eq_getElem?_getD, List.getElem?_set]
  by_cases e : j = p
  · subst e; rw [if_pos rfl, if_pos rfl, if_pos h]; rfl
  · rw [if_neg (fun h => e h.symm), if_neg e]
/-- A store into the row of strings. -/
theorem row_set {w : World} {b p : Nat} {t : TypeId} {n : Nat} {l : List ByteArray} {x : ByteArray} (h : w.rowIs b t n (fun i => .string (l.getD i ByteArray.empty))) (hp : p < l.length) : (w.setCell ⟨b, p, none⟩ (.string x)).rowIs b t n (fun i => .string ((l.set p x).getD i ByteArray.empty)) :=
  (h.set p (.string x)).congr (fun j _ => by
    rw [getD_set l p j x hp]
    by_cases e : j = p
    · rw [if_pos e, if_pos e]
    · rw [if_neg e, if_neg e])
theorem getD_small {l : List ByteArray} (h : ∀ s ∈ l, s.size ≤ 100) (p : Nat) : (l.getD p ByteArray.empty).size ≤ 100 := by
  rw [List.getD_eq_getElem?_getD]
  rcases Nat.lt_or_ge p l.length with hlt | hge
  · rw [List.getElem?_eq_getElem hlt]; exact h _ (List.getElem_mem _)
  · rw [List.getElem?_eq_none hge]; exact Nat.zero_le _

/-- A disk that DiskOK lets by. -/
structure Ok (ss : List ByteArray) (ws : List (Int × ByteArray)) : Prop where
  n48 : ss.length = 48
  m60 : ws.length ≤ 60
  small : ∀ s ∈ ss, s.size ≤ 100
  smallW : ∀ x ∈ ws, x.2.size ≤ 100
  at_ : ∀ x ∈ ws, 0 ≤ x.1 ∧ x.1 ≤ 47
theorem ok_of {ss : List ByteArray} {ws : List (Int × ByteArray)} (h : okDisk ss ws = true) : Ok ss ws := by
  unfold okDisk at h
  simp only [Bool.and_eq_true, decide_eq_true_eq, List.all_eq_true] at h
  obtain ⟨⟨h1, h2⟩, h3, h4⟩ := h
  refine ⟨h1, h2, fun s hs => ?_, fun x hx => ?_, fun x hx => ?_⟩
  · have := h3 s hs; unfold okSt at this; simpa using this
  · have := h4 x hx; unfold okWr at this; simp at this; exact this.2
  · have := h4 x hx; unfold okWr at this; simp at this; exact secB_range this.1

set_option maxRecDepth 100000 in
set_option maxHeartbeats 4000000 in
theorem settle (A C F : Option Addr) (n c m d nf cf : Nat) (ss : List ByteArray) (ws : List (Int × ByteArray)) (fs : List Int) (w : World) (hl : ss.length = n) (hm : ws.length = m) (hf : fs.length = nf) (hnf : nf ≤ maxLen) (h : StrL w A ss) (g : WrL w C ws) (i : IntL w F fs) (ok : Ok ss ws) :
    Calls Try.prog 92 #[.agg #[.slice A n c, .slice C m d], .slice F nf cf] w (GivesDisk (settleN ss ws fs m) [] w) := by
  have HL := Lib.hid hl
  have HM := Lib.hid hm
  have HSec := Lib.hid (fun W (hb : Below w.heap.size w W) => sectors A C n c m d ss W hl (by have := ok.n48; omega) (h.below hb))
  have HFt := Lib.hid (fun j W (hj : j ≤ 1048576) (hb : Below w.heap.size w W) => fateOf F nf cf fs j W hf hnf hj (i.below hb))
  have G := Lib.hid g
  have OK := Lib.hid ok
  have hm60 : m ≤ 60 := by have := ok.m60; omega
  have hn48 : n ≤ 48 := by have := ok.n48; omega
  clear hl hm hf hnf h g i ok
  go_enter Try.func92, Try.ntmps92
  go_wp2_with fail
  obtain ⟨W0, hW0⟩ : ∃ W0, W0 = ((w.alloc (.cells #[.slice A n c, .slice C m d] 30)).alloc (.cells #[.slice none 0 0, .slice none 0 0] 30)) := ⟨_, rfl⟩
  have hb0 : Below w.heap.size w W0 := by rw [hW0]; exact ((Below.refl _ _).alloc (Nat.le_refl _) _).alloc (by simp) _
  have hs0 : W0.heap.size = w.heap.size + 1 + 1 := by rw [hW0]; simp
  have X0 : Box W0 w.heap.size 30 #[.slice A n c, .slice C m d] := by rw [hW0]; exact (Box.new _ _ _).alloc _
  have Y0 : Box W0 (w.heap.size + 1) 30 #[.slice none 0 0, .slice none 0 0] := by rw [hW0]; simpa using Box.new (w.alloc (.cells #[.slice A n c, .slice C m d] 30)) 30 #[.slice none 0 0, .slice none 0 0]
  rw [← hW0]
  clear hW0
  refine (HSec.out W0 hb0).mono ?_
  rintro e w1 ⟨rfl, hb1, HR1⟩
  have X1 := X0.step hb1
  have Y1 := Lib.hid (Y0.step hb1)
  have hb1' := bt hb0 hb1
  have HB : Hid (w.heap.size + 1 < W0.heap.size + 1) := Lib.hid (by omega)
  have f1 : w1.cell? ⟨w.heap.size, 1, none⟩ = some (.slice C m d) := X1.cell 1 rfl
  clear X0 Y0 X1 hb0 hb1 hs0
  generalize W0.heap.size + 1 = b at HR1 HB ⊢
  go_wp2
  clear f1
  go_loopw [13] (fun q wr => ∃ k : Nat, k ≤ m ∧ q = .int .i64 k ∧ Below w.heap.size w wr ∧ Hid (wr.rowIs b 9 n (fun j => .string ((settleN ss ws fs k).getD j ByteArray.empty))) ∧ Hid (Box wr (w.heap.size + 1) 30 #[.slice none 0 0, .slice none 0 0])) (fun q _ => m - (intOf q).toNat)
  case atStart => exact ⟨0, Nat.zero_le _, rfl, hb1', HR1, Y1⟩
  case round =>
    obtain ⟨k, hk, rfl, hbw, HR, HY⟩ := hrel
    by_cases hlt : k < m
    · obtain ⟨b2, off, rfl, hc, hd⟩ := (G.out.below hbw) k (by rw [HM.out]; exact hlt)
      have hmem : ws.getD k (0, ByteArray.empty) ∈ ws := by rw [List.getD_eq_getElem?_getD, List.getElem?_eq_getElem (by rw [HM.out]; exact hlt)]; exact List.getElem_mem _
      have hat := OK.out.at_ _ hmem
      have hsz := OK.out.smallW _ hmem
      have HK : Hid (settleN ss ws fs (k + 1) = stepF fs k (settleN ss ws fs k) (ws.getD k (0, ByteArray.empty))) := Lib.hid rfl
      have hsm := settleN_small ss ws fs OK.out.small OK.out.smallW k (by rw [HM.out]; omega)
      have HLen : Hid ((settleN ss ws fs k).length = n) := Lib.hid (by rw [settleN_len, HL.out])
      generalize ws.getD k (0, ByteArray.empty) = x at hc hd hat hsz HK hmem
      obtain ⟨x1, x2⟩ := x
      simp only at hc hd hat hsz
      obtain ⟨p, rfl⟩ : ∃ p : Nat, x1 = p := ⟨x1.toNat, by omega⟩
      have hpn : p < n := by have := OK.out.n48; have := HL.out; omega
      have hpi : (p : Int) < (n : Int) := by omega
      have hold := getD_small hsm p
      generalize settleN ss ws fs k = cur at HR HK hsm HLen hold
      have hi : (k : Int) < (m : Int) := by omega
      have hk1 : k ≤ 1048576 := by omega
      have hba : Below w.heap.size w (wr.alloc (.cells #[.int .i64 (p : Int), .string x2] 87)) := hbw.alloc hbw.size _
      have HFk := Lib.hid (HFt.out k _ hk1 hba)
      have HRa := Lib.hid (HR.out.alloc (.cells #[.int .i64 (p : Int), .string x2] 87))
      have HYa := Lib.hid (HY.out.alloc (.cells #[.int .i64 (p : Int), .string x2] 87))
      have HXa := Lib.hid (Box.new wr 87 #[.int .i64 (p : Int), .string x2])
      clear hmem hat hsm
      go_wp2_with fail
      refine HFk.out.mono ?_
      rintro e w2 ⟨rfl, rfl⟩
      generalize hfate : fateAt fs k = ft
      have HFT := Lib.hid hfate
      clear hfate
      clear HFk HR HY
      by_cases e1 : ft = 1
      · have hq : (ft == 1) = true := by simp [e1]
        have HN : Hid (settleN ss ws fs (k + 1) = cur.set p x2) := Lib.hid (by rw [HK.out]; unfold stepF; rw [HFT.out, if_pos e1]; rfl)
        clear e1
        have hcd := HRa.out.cell hpn
        have hfr := HRa.out.frozen p
        have HS := Lib.hid (row_set (x := x2) HRa.out (by rw [HLen.out]; exact hpn))
        have HYs := Lib.hid (HYa.out.far (p := ⟨b, p, none⟩) (by show w.heap.size + 1 ≠ b; have := HB.out; omega) (.string x2))
        have HBs := Lib.hid (hba.setCell (p := ⟨b, p, none⟩) (by show w.heap.size ≤ b; have := HB.out; omega) (.string x2))
        generalize cur.getD p ByteArray.empty = y at hcd
        go_wp2
        go_roundw
        case rel => exact ⟨k + 1, by omega, by go_num, HBs.out, by rw [HN.out]; exact HS, HYs⟩
        case measure => simp [intOf]; omega
      · have hq : (ft == 1) = false := by simp [e1]
        by_cases e2 : ft = 2
        · have hq2 : (ft == 2) = true := by simp [e2]
          have HN : Hid (settleN ss ws fs (k + 1) = cur.set p (tearOf (cur.getD p ByteArray.empty) x2)) := Lib.hid (by rw [HK.out]; unfold stepF; rw [HFT.out, if_neg e1, if_pos e2]; rfl)
          clear e1 e2
          have hcd : (wr.alloc (.cells #[.int .i64 (p : Int), .string x2] 87)).cell? ⟨b, p, none⟩ = some (.string (cur.getD p ByteArray.empty)) := HRa.out.cell hpn
          have g0 : (wr.alloc (.cells #[.int .i64 (p : Int), .string x2] 87)).cell? ⟨wr.heap.size, 0, none⟩ = some (.int .i64 (p : Int)) := HXa.out.cell 0 rfl
          have g1 : (wr.alloc (.cells #[.int .i64 (p : Int), .string x2] 87)).cell? ⟨wr.heap.size, 1, none⟩ = some (.string x2) := HXa.out.cell 1 rfl
          have HTe := Lib.hid (fun W => tear (cur.getD p ByteArray.empty) x2 W hold hsz)
          generalize tearOf (cur.getD p ByteArray.empty) x2 = t at HTe HN
          generalize cur.getD p ByteArray.empty = y at hcd HTe hold
          go_wp2_with fail
          generalize wr.alloc (.cells #[.int .i64 (p : Int), .string x2] 87) = wa at hba HRa HYa HXa hcd g0 g1 ⊢
          have HKp := Lib.hid (fun W (hb : Below wa.heap.size wa W) => And.intro ((hb.cell (cell_lt g0)).trans g0) (And.intro ((hb.cell (cell_lt hcd)).trans hcd) ((hb.frozen (p := ⟨b, p, none⟩) (cell_lt hcd)).trans (HRa.out.frozen p))))
          have h6 : Below wa.heap.size wa wa.drew := (Below.refl _ _).drew
          go_region_with (go_at_call 107; refine (HTe.out _).mono ?_; rintro e w3 ⟨rfl, hb3⟩; have k3 : Below wa.heap.size wa w3 := bt h6 hb3; have z0 := (HKp.out w3 k3).1; have z1 := (HKp.out w3 k3).2.1; have z2 := (HKp.out w3 k3).2.2)
          all_goals
            have HS := Lib.hid (row_set (x := t) (row_below k3 HRa.out HRa.out.lt) (by rw [HLen.out]; exact hpn))
            have HYs := Lib.hid ((HYa.out.step k3).far (p := ⟨b, p, none⟩) (by show w.heap.size + 1 ≠ b; have := HB.out; omega) (.string t))
            have HBs := Lib.hid ((bt hba k3).setCell (p := ⟨b, p, none⟩) (by show w.heap.size ≤ b; have := HB.out; omega) (.string t))
            clear z0 z1 z2 k3 hb3 h6 HKp g0 g1 hcd HRa HYa HXa hba HTe
            go_wp2
            go_roundw
            case rel => exact ⟨k + 1, by omega, by go_num, HBs.out, by rw [HN.out]; exact HS, HYs⟩
            case measure => simp [intOf]; omega
        · have hq2 : (ft == 2) = false := by simp [e2]
          have HN : Hid (settleN ss ws fs (k + 1) = cur) := Lib.hid (by rw [HK.out]; unfold stepF; rw [HFT.out, if_neg e1, if_neg e2])
          clear e1 e2
          go_wp2
          go_roundw
          case rel => exact ⟨k + 1, by omega, by go_num, hba, by rw [HN.out]; exact HRa, HYa⟩
          case measure => simp [intOf]; omega
    · have g0 := HY.out.cell 0 rfl
      have g1 := HY.out.cell 1 rfl
      have g2 := HY.out.frozen 0
      have g3 := HY.out.frozen 1
      go_wp2
      have ek : k = m := by omega
      subst ek
      refine bodyPost_ret (v := .agg #[.slice (some ⟨b, 0, none⟩) n n, .slice none 0 0]) (by simp [results, Try.results92, go_sem, g0, g1]) rfl ?_
      have hne : b ≠ w.heap.size + 1 := by have := HB.out; omega
      refine ⟨_, _, _, _, _, _, rfl, Lib.hid (by rw [settleN_len, HL.out]), Lib.hid rfl, Lib.hid ?_, Lib.hid (.inl rfl), (hbw.setCell (by show w.heap.size ≤ w.heap.size + 1; omega) _).setCell (by show w.heap.size ≤ w.heap.size + 1; omega) _⟩
      refine own_of_rowS (by rw [settleN_len, HL.out]) ((HR.out.setOther (a := ⟨w.heap.size + 1, 0, none⟩) hne _).setOther (a := ⟨w.heap.size + 1, 1, none⟩) hne _) (by have := HB.out; omega) ?_
      have := HR.out.lt
      simpa [World.setCell] using this
end Go.Proofs.Ytlfmniekbiffjaa

/- Contract of the model's flush: l01Flush. -/
namespace Go.Proofs.Ytlfmniekbiffjaa
open Go.RowKit

theorem fate_one (k : Nat) : fateAt [1] k = 1 := by simp [fateAt, Nat.mod_one]
theorem settle_one (ss : List ByteArray) (ws : List (Int × ByteArray)) (k : Nat) : settleN ss ws [1] (k + 1) = (settleN ss ws [1] k).set (ws.getD k (0, ByteArray.empty)).1.toNat (ws.getD k (0, ByteArray.empty)).2 := by
  rw [settleN, stepF, if_pos (fate_one k)]

/-- From a row that an append made to a row by its index. -/
theorem row_of_own {w : World} {base n : Nat} {v : Value} {ss : List ByteArray} (h : w.ownsRow base 9 1 v n (cellsS ss)) (hn : 0 < n) : ∃ g cap m f, v = .slice (some ⟨g, 0, none⟩) n cap ∧ base ≤ g ∧ n ≤ m ∧ ss.length = n ∧ w.rowIs g 9 m f ∧ ∀ i, i < n → f i = .string (ss.getD i ByteArray.empty) := by
  obtain ⟨hl, h0 | ⟨g, cap, cur, rfl, hb, hg, hnc, _, hsz, htk⟩⟩ := h
  · omega
  · rw [cellsS_len, Nat.mul_one] at hl
    rw [Nat.mul_one] at hsz htk
    refine ⟨g, cap, cap, fun i => cur.toList.getD i undef, rfl, hb, hnc, hl, ⟨cur, hg, hsz, fun i hi => ?_⟩, fun i hi => ?_⟩
    · have : i < cur.toList.length := by simp [hsz, hi]
      show cur[i]? = some (cur.toList.getD i undef)
      rw [List.getD_eq_getElem?_getD, List.getElem?_eq_getElem this, ← Array.getElem?_toList, List.getElem?_eq_getElem this]
      rfl
    · have h1 : (cur.toList.take n)[i]? = (cellsS ss)[i]? := by rw [htk]
      rw [List.getElem?_take, if_pos hi] at h1
      show cur.toList.getD i undef = _
      rw [List.getD_eq_getElem?_getD, h1]
      unfold cellsS
      rw [List.getElem?_map, List.getD_eq_getElem?_getD, List.getElem?_eq_getElem (by omega)]
      rfl
theorem own_empty {w : World} {base g : Nat} {t : TypeId} (hb : base ≤ g) (hg : Box w g t #[]) : w.ownsRow base t 1 (.slice (some ⟨g, 0, none⟩) 0 0) 0 (cellsS []) :=
  ⟨rfl, .inr ⟨g, 0, #[], rfl, hb, hg, Nat.le_refl _, Nat.zero_le _, rfl, rfl⟩⟩
theorem cellsS_app (ss : List ByteArray) : cellsS [] ++ cellsS ss = cellsS ss := rfl
theorem below_of_grown {B : Nat} {w w' : World} {r : Option Nat} (h : w.grownBy w' r) (hr : ∀ k, r = some k → B ≤ k) (hB : B ≤ w.heap.size) : Below B w w' := (Below.refl B w).grown h hB hr

/-- A row of strings with room to spare: the first n are these. -/
def RowS (w : World) (b n m : Nat) (l : List ByteArray) : Prop := l.length = n ∧ n ≤ m ∧ ∃ f, w.rowIs b 9 m f ∧ ∀ i, i < n → f i = .string (l.getD i ByteArray.empty)
theorem RowS.cell {w : World} {b n m p : Nat} {l : List ByteArray} (h : RowS w b n m l) (hp : p < n) : w.cell? ⟨b, p, none⟩ = some (.string (l.getD p ByteArray.empty)) := by
  obtain ⟨_, hm, f, hr, hf⟩ := h
  rw [← hf p hp]; exact hr.cell (by omega)
theorem RowS.frozen {w : World} {b n m : Nat} {l : List ByteArray} (h : RowS w b n m l) (p : Nat) : w.frozen? ⟨b, p, none⟩ = false := by
  obtain ⟨_, hm, f, hr, hf⟩ := h
  exact hr.frozen p
theorem RowS.lt {w : World} {b n m : Nat} {l : List ByteArray} (h : RowS w b n m l) : b < w.heap.size := by
  obtain ⟨_, hm, f, hr, hf⟩ := h
  exact hr.lt
theorem RowS.below {w w' : World} {b n m : Nat} {l : List ByteArray} (h : RowS w b n m l) (hb : Below w.heap.size w w') : RowS w' b n m l := by
  obtain ⟨hl, hm, f, hr, hf⟩ := h
  exact ⟨hl, hm, f, row_below hb hr hr.lt, hf⟩
theorem RowS.set {w : World} {b n m p : Nat} {l : List ByteArray} (h : RowS w b n m l) (hp : p < n) (x : ByteArray) : RowS (w.setCell ⟨b, p, none⟩ (.string x)) b n m (l.set p x) := by
  obtain ⟨hl, hm, f, hr, hf⟩ := h
  refine ⟨by simpa using hl, hm, _, hr.set p (.string x), fun i hi => ?_⟩
  rw [getD_set l p i x (by omega)]
  by_cases e : i = p
  · rw [if_pos e, if_pos e]
  · rw [if_neg e, if_neg e]; exact hf i hi
theorem RowS.far {w : World} {b n m : Nat} {l : List ByteArray} (h : RowS w b n m l) {a : Addr} (ha : b ≠ a.block) (v : Value) : RowS (w.setCell a v) b n m l := by
  obtain ⟨hl, hm, f, hr, hf⟩ := h
  exact ⟨hl, hm, f, hr.setOther ha v, hf⟩
theorem RowS.own {w : World} {b n m lo hi : Nat} {l : List ByteArray} (h : RowS w b n m l) (h1 : lo ≤ b) (h2 : b < hi) : OwnS w lo hi (some ⟨b, 0, none⟩) l := by
  obtain ⟨hl, hm, f, hr, hf⟩ := h
  exact .inr ⟨b, m, f, rfl, h1, h2, by omega, hr, fun i hi => hf i (by omega)⟩

set_option maxRecDepth 100000 in
theorem infoSx : ∃ i : TypeInfo, Try.prog.info? 9 = some i ∧ i.zero = some (.string ByteArray.empty) ∧ i.size = 1 ∧ i.bytes = 16 := by
  obtain ⟨i, hi, hzz⟩ := Option.map_eq_some_iff.1 infoS
  simp only [Prod.mk.injEq] at hzz
  exact ⟨i, hi, hzz.1, hzz.2.1, hzz.2.2⟩

set_option maxRecDepth 100000 in
set_option maxHeartbeats 4000000 in
theorem l01Flush (A C : Option Addr) (n c m d : Nat) (ss : List ByteArray) (ws : List (Int × ByteArray)) (w : World) (hl : ss.length = n) (hm : ws.length = m) (h : StrL w A ss) (g : WrL w C ws) (ok : Ok ss ws) :
    Calls Try.prog 77 #[.agg #[.slice A n c, .slice C m d]] w (GivesDisk (settleN ss ws [1] m) [] w) := by
  have HL := Lib.hid hl
  have HM := Lib.hid hm
  have HSt := Lib.hid h
  have G := Lib.hid g
  have OK := Lib.hid ok
  have hm60 : m ≤ 60 := by have := ok.m60; omega
  have hn48 : n ≤ 48 := by have := ok.n48; omega
  have hn48' : 48 ≤ n := by have := ok.n48; omega
  clear hl hm h g ok
  obtain ⟨i0, hi0, hz0, hz1, hz2⟩ := infoSx
  have HI := Lib.hid (And.intro hi0 (And.intro hz0 (And.intro hz1 hz2)))
  clear hi0 hz0 hz1 hz2
  obtain ⟨W0, hW0⟩ : ∃ W0, W0 = (((w.alloc (.cells #[.slice A n c, .slice C m d] 30)).alloc (.cells #[.slice none 0 0, .slice none 0 0] 30)).alloc (.cells #[] 9)) := ⟨_, rfl⟩
  have hb0 : Below w.heap.size w W0 := by rw [hW0]; exact (((Below.refl _ _).alloc (Nat.le_refl _) _).alloc (by simp) _).alloc (by simp; omega) _
  have hs0 : W0.heap.size = w.heap.size + 1 + 1 + 1 := by rw [hW0]; simp
  have X0 : Box W0 w.heap.size 30 #[.slice A n c, .slice C m d] := by rw [hW0]; exact ((Box.new _ _ _).alloc _).alloc _
  have Y0 : Box W0 (w.heap.size + 1) 30 #[.slice none 0 0, .slice none 0 0] := by rw [hW0]; simpa using (Box.new (w.alloc (.cells #[.slice A n c, .slice C m d] 30)) 30 #[.slice none 0 0, .slice none 0 0]).alloc (.cells #[] 9)
  have Z0 : Box W0 (w.heap.size + 1 + 1) 9 #[] := by rw [hW0]; simpa using Box.new ((w.alloc (.cells #[.slice A n c, .slice C m d] 30)).alloc (.cells #[.slice none 0 0, .slice none 0 0] 30)) 9 #[]
  have HO := Lib.hid (own_empty (base := w.heap.size + 1 + 1) (Nat.le_refl _) Z0)
  have HX := Lib.hid (And.intro X0 Y0)
  have HS0 := Lib.hid hs0
  obtain ⟨ad, hA, hsrc⟩ := (HSt.out.below hb0).src (by rw [cellsS_len, HL.out]; omega)
  have HSrc := Lib.hid hsrc
  have HCl : Hid ((cellsS ss).length = n * 1) := Lib.hid (by rw [cellsS_len, HL.out]; omega)
  subst hA
  clear X0 Y0 Z0 hs0 hsrc
  have HW0 := Lib.hid hW0
  clear hW0
  go_enter Try.func77, Try.ntmps77
  go_wp2_with (at_builtin; refine wpList_append_own _ rfl (.tmp 5) (.tmp 7) 22 rfl (w.heap.size + 1 + 1) 9 i0 (.string ByteArray.empty) 1 16 Try.underlying22 HI.out.1 HI.out.2.1 HI.out.2.2.1 HI.out.2.2.2 rfl (by decide) _ 0 (cellsS []) rfl ?hown ad n c (cellsS ss) rfl HCl.out ?hnews (cellsS_one ss) ?h63 ?hby ?hbase ?_)
  case hown => rw [← HW0.out]; exact HO.out
  case hnews => rw [← HW0.out]; exact HSrc.out
  case h63 => unfold maxLen; omega
  case hby => omega
  case hbase => simp
  rw [← HW0.out]
  intro v1 w1 hown hgr hniff
  have hb1 := Lib.hid (below_of_grown (B := w.heap.size + 1 + 1) hgr (fun k hk => by simp [Value.ownBlock] at hk; omega) (by rw [HS0.out]; omega))
  rw [cellsS_app] at hown
  try rw [Nat.zero_add] at hown
  obtain ⟨gb, cap, mm, f, hv, q1, q2, q3, q4, q5⟩ := row_of_own hown (by omega)
  rw [hv]
  have HR1 : Hid (RowS w1 gb n mm ss) := Lib.hid ⟨q3, q2, f, q4, q5⟩
  have HX1 := Lib.hid (And.intro (HX.out.1.below hb1.out (by omega)) (HX.out.2.below hb1.out (by omega)))
  have hb1' : Below w.heap.size w w1 := hb0.trans (hb1.out.mono (by omega))
  have HG : Hid (w.heap.size + 1 < gb) := Lib.hid (by omega)
  clear hniff hown hgr hv q1 q2 q3 q4 q5 v1 HO HSrc HW0 HX hb0 hb1 HS0 HCl HI i0 HSt
  go_wp2
  obtain ⟨W2, hW2⟩ : ∃ W2, W2 = ((w1.alloc (.cells #[] 87)).alloc (.cells #[.slice (some ⟨gb, 0, none⟩) n cap, .slice (some ⟨w1.heap.size, 0, none⟩) 0 0] 30)) := ⟨_, rfl⟩
  have k2 : Below w1.heap.size w1 W2 := by rw [hW2]; exact ((Below.refl _ _).alloc (Nat.le_refl _) _).alloc (by simp) _
  have Z2 : Hid (Box W2 (w1.heap.size + 1) 30 #[.slice (some ⟨gb, 0, none⟩) n cap, .slice (some ⟨w1.heap.size, 0, none⟩) 0 0]) := Lib.hid (by rw [hW2]; simpa using Box.new (w1.alloc (.cells #[] 87)) 30 #[.slice (some ⟨gb, 0, none⟩) n cap, .slice (some ⟨w1.heap.size, 0, none⟩) 0 0])
  rw [← hW2]
  clear hW2
  have X2 := Lib.hid (HX1.out.1.step k2)
  have Y2 := Lib.hid (HX1.out.2.step k2)
  have R2 := Lib.hid (HR1.out.below k2)
  have hb2 := bt hb1' k2
  have HG2 : Hid (gb < w1.heap.size) := Lib.hid HR1.out.lt
  have HG3 : Hid (w.heap.size + 1 < w1.heap.size) := Lib.hid HX1.out.2.lt
  clear HX1 HR1 hb1' k2
  go_loopw [4] (fun q wr => ∃ k : Nat, k ≤ m ∧ q = .int .i64 k ∧ Below w.heap.size w wr ∧ Hid (Box wr w.heap.size 30 #[.slice (some ad) n c, .slice C m d]) ∧ Hid (Box wr (w.heap.size + 1) 30 #[.slice none 0 0, .slice none 0 0]) ∧ Hid (Box wr (w1.heap.size + 1) 30 #[.slice (some ⟨gb, 0, none⟩) n cap, .slice (some ⟨w1.heap.size, 0, none⟩) 0 0]) ∧ Hid (RowS wr gb n mm (settleN ss ws [1] k))) (fun q _ => m - (intOf q).toNat)
  case atStart => exact ⟨0, Nat.zero_le _, rfl, hb2, X2, Y2, Z2, R2⟩
  case round =>
    obtain ⟨k, hk, rfl, hbw, X, Y, Z, R⟩ := hrel
    by_cases hlt : k < m
    · obtain ⟨b2, off, rfl, hc, hd⟩ := (G.out.below hbw) k (by rw [HM.out]; exact hlt)
      have hmem : ws.getD k (0, ByteArray.empty) ∈ ws := by rw [List.getD_eq_getElem?_getD, List.getElem?_eq_getElem (by rw [HM.out]; exact hlt)]; exact List.getElem_mem _
      have hat := OK.out.at_ _ hmem
      have HK := Lib.hid (settle_one ss ws k)
      generalize ws.getD k (0, ByteArray.empty) = x at hc hd hat HK hmem
      obtain ⟨x1, x2⟩ := x
      simp only at hc hd hat
      obtain ⟨p, rfl⟩ : ∃ p : Nat, x1 = p := ⟨x1.toNat, by omega⟩
      have hpn : p < n := by omega
      have hpi : (p : Int) < (n : Int) := by omega
      have hp0 : (0 : Int) ≤ (p : Int) := by omega
      have hi : (k : Int) < (m : Int) := by omega
      have hi0 : (0 : Int) ≤ (k : Int) := by omega
      generalize settleN ss ws [1] k = cur at R HK
      have hcd := R.out.cell hpn
      have hfr := R.out.frozen p
      have f1 : wr.cell? ⟨w.heap.size, 1, none⟩ = some (.slice (some ⟨b2, off, none⟩) m d) := X.out.cell 1 rfl
      have f2 : wr.cell? ⟨w1.heap.size + 1, 0, none⟩ = some (.slice (some ⟨gb, 0, none⟩) n cap) := Z.out.cell 0 rfl
      have HRs := Lib.hid ((R.out.below (Below.refl _ _).drew).set hpn x2)
      have HXs := Lib.hid ((X.out.drew).far (p := ⟨gb, p, none⟩) (by show w.heap.size ≠ gb; have := HG.out; omega) (.string x2))
      have HYs := Lib.hid ((Y.out.drew).far (p := ⟨gb, p, none⟩) (by show w.heap.size + 1 ≠ gb; have := HG.out; omega) (.string x2))
      have HZs := Lib.hid ((Z.out.drew).far (p := ⟨gb, p, none⟩) (by show w1.heap.size + 1 ≠ gb; have := HG2.out; omega) (.string x2))
      have HBs := Lib.hid (hbw.drew.setCell (p := ⟨gb, p, none⟩) (by show w.heap.size ≤ gb; have := HG.out; omega) (.string x2))
      generalize cur.getD p ByteArray.empty = y at hcd
      clear hmem hat X Y Z R
      go_wp2
      go_still_tail 14, (by kernel_rfl)
      change wpList _ _ _ _ _ wr.drew
      go_wp2
      go_roundw
      case rel => exact ⟨k + 1, by omega, by go_num, HBs.out, HXs, HYs, HZs, by rw [HK.out]; exact HRs⟩
      case measure => simp [intOf]; omega
    · have f1 : wr.cell? ⟨w.heap.size, 1, none⟩ = some (.slice C m d) := X.out.cell 1 rfl
      have f2 : wr.cell? ⟨w1.heap.size + 1, 0, none⟩ = some (.slice (some ⟨gb, 0, none⟩) n cap) := Z.out.cell 0 rfl
      have f3 : wr.cell? ⟨w1.heap.size + 1, 1, none⟩ = some (.slice (some ⟨w1.heap.size, 0, none⟩) 0 0) := Z.out.cell 1 rfl
      have g0 := Y.out.cell 0 rfl
      have g1 := Y.out.cell 1 rfl
      have g2 := Y.out.frozen 0
      have g3 := Y.out.frozen 1
      go_wp2
      have ek : k = m := by omega
      subst ek
      refine bodyPost_ret (v := .agg #[.slice (some ⟨gb, 0, none⟩) n cap, .slice (some ⟨w1.heap.size, 0, none⟩) 0 0]) (by simp [results, Try.results77, go_sem, g0, g1]) rfl ?_
      have hne : gb ≠ w.heap.size + 1 := by have := HG.out; omega
      refine ⟨_, _, _, _, _, _, rfl, Lib.hid (by rw [settleN_len, HL.out]), Lib.hid rfl, Lib.hid ?_, Lib.hid (.inl rfl), (hbw.setCell (by show w.heap.size ≤ w.heap.size + 1; omega) _).setCell (by show w.heap.size ≤ w.heap.size + 1; omega) _⟩
      refine ((R.out.far (a := ⟨w.heap.size + 1, 0, none⟩) hne _).far (a := ⟨w.heap.size + 1, 1, none⟩) hne _).own (by have := HG.out; omega) ?_
      have := R.out.lt
      simpa [World.setCell] using this
end Go.Proofs.Ytlfmniekbiffjaa

/- Contracts of the model's crash: l01Crash; of the tests of fates. -/
namespace Go.Proofs.Ytlfmniekbiffjaa
open Go.RowKit

theorem tear_min (old x : ByteArray) : x.extract 0 (x.size / 2) ++ old.extract (min (x.size / 2) old.size) old.size = tearOf old x := by
  unfold tearOf
  split
  · rename_i h
    rw [Nat.min_eq_right h]
    apply WideShapes.bytes_inj
    simp [ByteArray.data_extract]
  · rename_i h
    rw [Nat.min_eq_left (by omega)]

set_option maxRecDepth 100000 in
set_option maxHeartbeats 4000000 in
theorem l01Crash (A C F : Option Addr) (n c m d nf cf : Nat) (ss : List ByteArray) (ws : List (Int × ByteArray)) (fs : List Int) (w : World) (hl : ss.length = n) (hm : ws.length = m) (hf : fs.length = nf) (hnf : nf ≤ maxLen) (h : StrL w A ss) (g : WrL w C ws) (i : IntL w F fs) (ok : Ok ss ws) :
    Calls Try.prog 90 #[.agg #[.slice A n c, .slice C m d], .slice F nf cf] w (GivesDisk (settleN ss ws fs m) [] w) := by
  have HL := Lib.hid hl
  have HM := Lib.hid hm
  have HNF := Lib.hid hf
  have HSt := Lib.hid h
  have G := Lib.hid g
  have I := Lib.hid i
  have OK := Lib.hid ok
  have hm60 : m ≤ 60 := by have := ok.m60; omega
  have hn48 : n ≤ 48 := by have := ok.n48; omega
  have hn48' : 48 ≤ n := by have := ok.n48; omega
  unfold maxLen at hnf
  clear hl hm hf h g i ok
  obtain ⟨i0, hi0, hz0, hz1, hz2⟩ := infoSx
  have HI := Lib.hid (And.intro hi0 (And.intro hz0 (And.intro hz1 hz2)))
  clear hi0 hz0 hz1 hz2
  obtain ⟨W0, hW0⟩ : ∃ W0, W0 = (((w.alloc (.cells #[.slice A n c, .slice C m d] 30)).alloc (.cells #[.slice none 0 0, .slice none 0 0] 30)).alloc (.cells #[] 9)) := ⟨_, rfl⟩
  have hb0 : Below w.heap.size w W0 := by rw [hW0]; exact (((Below.refl _ _).alloc (Nat.le_refl _) _).alloc (by simp) _).alloc (by simp; omega) _
  have hs0 : W0.heap.size = w.heap.size + 1 + 1 + 1 := by rw [hW0]; simp
  have X0 : Box W0 w.heap.size 30 #[.slice A n c, .slice C m d] := by rw [hW0]; exact ((Box.new _ _ _).alloc _).alloc _
  have Y0 : Box W0 (w.heap.size + 1) 30 #[.slice none 0 0, .slice none 0 0] := by rw [hW0]; simpa using (Box.new (w.alloc (.cells #[.slice A n c, .slice C m d] 30)) 30 #[.slice none 0 0, .slice none 0 0]).alloc (.cells #[] 9)
  have Z0 : Box W0 (w.heap.size + 1 + 1) 9 #[] := by rw [hW0]; simpa using Box.new ((w.alloc (.cells #[.slice A n c, .slice C m d] 30)).alloc (.cells #[.slice none 0 0, .slice none 0 0] 30)) 9 #[]
  have HO := Lib.hid (own_empty (base := w.heap.size + 1 + 1) (Nat.le_refl _) Z0)
  have HX := Lib.hid (And.intro X0 Y0)
  have HS0 := Lib.hid hs0
  obtain ⟨ad, hA, hsrc⟩ := (HSt.out.below hb0).src (by rw [cellsS_len, HL.out]; omega)
  have HSrc := Lib.hid hsrc
  have HCl : Hid ((cellsS ss).length = n * 1) := Lib.hid (by rw [cellsS_len, HL.out]; omega)
  subst hA
  clear X0 Y0 Z0 hs0 hsrc
  have HW0 := Lib.hid hW0
  clear hW0
  go_enter Try.func90, Try.ntmps90
  go_wp2_with (at_builtin; refine wpList_append_own _ rfl (.tmp 11) (.tmp 13) 22 rfl (w.heap.size + 1 + 1) 9 i0 (.string ByteArray.empty) 1 16 Try.underlying22 HI.out.1 HI.out.2.1 HI.out.2.2.1 HI.out.2.2.2 rfl (by decide) _ 0 (cellsS []) rfl ?hown ad n c (cellsS ss) rfl HCl.out ?hnews (cellsS_one ss) ?h63 ?hby ?hbase ?_)
  case hown => rw [← HW0.out]; exact HO.out
  case hnews => rw [← HW0.out]; exact HSrc.out
  case h63 => unfold maxLen; omega
  case hby => omega
  case hbase => simp
  rw [← HW0.out]
  intro v1 w1 hown hgr hniff
  have hb1 := Lib.hid (below_of_grown (B := w.heap.size + 1 + 1) hgr (fun k hk => by simp [Value.ownBlock] at hk; omega) (by rw [HS0.out]; omega))
  rw [cellsS_app] at hown
  try rw [Nat.zero_add] at hown
  obtain ⟨gb, cap, mm, f, hv, q1, q2, q3, q4, q5⟩ := row_of_own hown (by omega)
  rw [hv]
  have HR1 : Hid (RowS w1 gb n mm ss) := Lib.hid ⟨q3, q2, f, q4, q5⟩
  have HX1 := Lib.hid (And.intro (HX.out.1.below hb1.out (by omega)) (HX.out.2.below hb1.out (by omega)))
  have hb1' : Below w.heap.size w w1 := hb0.trans (hb1.out.mono (by omega))
  have HG : Hid (w.heap.size + 1 < gb) := Lib.hid (by omega)
  clear hniff hown hgr hv q1 q2 q3 q4 q5 v1 HO HSrc HW0 HX hb0 hb1 HS0 HCl HI i0 HSt
  go_wp2
  obtain ⟨W2, hW2⟩ : ∃ W2, W2 = ((w1.alloc (.cells #[] 87)).alloc (.cells #[.slice (some ⟨gb, 0, none⟩) n cap, .slice (some ⟨w1.heap.size, 0, none⟩) 0 0] 30)) := ⟨_, rfl⟩
  have k2 : Below w1.heap.size w1 W2 := by rw [hW2]; exact ((Below.refl _ _).alloc (Nat.le_refl _) _).alloc (by simp) _
  have Z2 : Hid (Box W2 (w1.heap.size + 1) 30 #[.slice (some ⟨gb, 0, none⟩) n cap, .slice (some ⟨w1.heap.size, 0, none⟩) 0 0]) := Lib.hid (by rw [hW2]; simpa using Box.new (w1.alloc (.cells #[] 87)) 30 #[.slice (some ⟨gb, 0, none⟩) n cap, .slice (some ⟨w1.heap.size, 0, none⟩) 0 0])
  rw [← hW2]
  clear hW2
  have X2 := Lib.hid (HX1.out.1.step k2)
  have Y2 := Lib.hid (HX1.out.2.step k2)
  have R2 := Lib.hid (HR1.out.below k2)
  have hb2 := bt hb1' k2
  have HG2 : Hid (gb < w1.heap.size) := Lib.hid HR1.out.lt
  have HG3 : Hid (w.heap.size + 1 < w1.heap.size) := Lib.hid HX1.out.2.lt
  clear HX1 HR1 hb1' k2
  go_loopw [6] (fun q wr => ∃ k : Nat, k ≤ m ∧ q = .int .i64 k ∧ Below w.heap.size w wr ∧ Hid (Box wr w.heap.size 30 #[.slice (some ad) n c, .slice C m d]) ∧ Hid (Box wr (w.heap.size + 1) 30 #[.slice none 0 0, .slice none 0 0]) ∧ Hid (Box wr (w1.heap.size + 1) 30 #[.slice (some ⟨gb, 0, none⟩) n cap, .slice (some ⟨w1.heap.size, 0, none⟩) 0 0]) ∧ Hid (RowS wr gb n mm (settleN ss ws fs k))) (fun q _ => m - (intOf q).toNat)
  case atStart => exact ⟨0, Nat.zero_le _, rfl, hb2, X2, Y2, Z2, R2⟩
  case round =>
    obtain ⟨k, hk, rfl, hbw, X, Y, Z, R⟩ := hrel
    by_cases hlt : k < m
    · obtain ⟨b2, off, rfl, hc, hd⟩ := (G.out.below hbw) k (by rw [HM.out]; exact hlt)
      have hmem : ws.getD k (0, ByteArray.empty) ∈ ws := by rw [List.getD_eq_getElem?_getD, List.getElem?_eq_getElem (by rw [HM.out]; exact hlt)]; exact List.getElem_mem _
      have hat := OK.out.at_ _ hmem
      have hsz := OK.out.smallW _ hmem
      have HK : Hid (settleN ss ws fs (k + 1) = stepF fs k (settleN ss ws fs k) (ws.getD k (0, ByteArray.empty))) := Lib.hid rfl
      have hsm := settleN_small ss ws fs OK.out.small OK.out.smallW k (by rw [HM.out]; omega)
      generalize ws.getD k (0, ByteArray.empty) = x at hc hd hat hsz HK hmem
      obtain ⟨x1, x2⟩ := x
      simp only at hc hd hat hsz
      obtain ⟨p, rfl⟩ : ∃ p : Nat, x1 = p := ⟨x1.toNat, by omega⟩
      have hpn : p < n := by omega
      have hpi : (p : Int) < (n : Int) := by omega
      have hp0 : (0 : Int) ≤ (p : Int) := by omega
      have hi : (k : Int) < (m : Int) := by omega
      have hi0 : (0 : Int) ≤ (k : Int) := by omega
      have hold := getD_small hsm p
      generalize settleN ss ws fs k = cur at R HK hsm hold
      have k3 := (Below.refl wr.heap.size wr).alloc (Nat.le_refl _) (.cells #[.int .i64 (p : Int), .string x2] 87)
      have hcd := (R.out.below k3).cell hpn
      have hfr := (R.out.below k3).frozen p
      have f1 : wr.cell? ⟨w.heap.size, 1, none⟩ = some (.slice (some ⟨b2, off, none⟩) m d) := X.out.cell 1 rfl
      have f2 : (wr.alloc (.cells #[.int .i64 (p : Int), .string x2] 87)).cell? ⟨w1.heap.size + 1, 0, none⟩ = some (.slice (some ⟨gb, 0, none⟩) n cap) := (Z.out.step k3).cell 0 rfl
      have HR3 := Lib.hid (R.out.below k3)
      have HX3 := Lib.hid (X.out.step k3)
      have HY3 := Lib.hid (Y.out.step k3)
      have HZ3 := Lib.hid (Z.out.step k3)
      have HB3 := Lib.hid (bt hbw k3)
      have HT := Lib.hid (tear_min (cur.getD p ByteArray.empty) x2)
      have e64 : w1.heap.size + 1 ≠ gb := by have := HG2.out; omega
      clear hmem hat X Y Z R
      by_cases hz : nf = 0
      · have hz' : ¬ (0 : Int) < (nf : Int) := by omega
        have HN : Hid (settleN ss ws fs (k + 1) = cur) := Lib.hid (by
          rw [HK.out]; unfold stepF
          have : fateAt fs k = 0 := by unfold fateAt; rw [if_pos (by rw [HNF.out]; exact hz)]
          rw [this]; rfl)
        clear hz
        generalize cur.getD p ByteArray.empty = y at hcd hold HT
        go_wp2
        go_roundw
        case rel => exact ⟨k + 1, by omega, by go_num, HB3.out, HX3, HY3, HZ3, by rw [HN.out]; exact HR3⟩
        case measure => simp [intOf]; omega
      · have hz' : (0 : Int) < (nf : Int) := by omega
        have hzn : ¬ (nf : Int) = 0 := by omega
        have hml : k % nf < nf := Nat.mod_lt _ (by omega)
        obtain ⟨bF, offF, rfl, hcF⟩ := (I.out.below hbw) (k % nf) (by rw [HNF.out]; exact hml)
        have HFT : Hid (fateAt fs k = fs.getD (k % nf) 0) := Lib.hid (by unfold fateAt; rw [if_neg (by rw [HNF.out]; exact hz), HNF.out])
        generalize fs.getD (k % nf) 0 = ft at hcF HFT
        clear hz
        by_cases e1 : ft = 1
        · have hq : (ft == 1) = true := by simp [e1]
          have HN : Hid (settleN ss ws fs (k + 1) = cur.set p x2) := Lib.hid (by rw [HK.out]; unfold stepF; rw [HFT.out, if_pos e1]; rfl)
          clear e1
          have HRs := Lib.hid (HR3.out.set hpn x2)
          have HXs := Lib.hid (HX3.out.far (p := ⟨gb, p, none⟩) (by show w.heap.size ≠ gb; have := HG.out; omega) (.string x2))
          have HYs := Lib.hid (HY3.out.far (p := ⟨gb, p, none⟩) (by show w.heap.size + 1 ≠ gb; have := HG.out; omega) (.string x2))
          have HZs := Lib.hid (HZ3.out.far (p := ⟨gb, p, none⟩) e64 (.string x2))
          have HBs := Lib.hid (HB3.out.setCell (p := ⟨gb, p, none⟩) (by show w.heap.size ≤ gb; have := HG.out; omega) (.string x2))
          generalize cur.getD p ByteArray.empty = y at hcd hold HT
          go_wp2
          go_roundw
          case rel => exact ⟨k + 1, by omega, by go_num, HBs.out, HXs, HYs, HZs, by rw [HN.out]; exact HRs⟩
          case measure => simp [intOf]; omega
        · have hq : (ft == 1) = false := by simp [e1]
          by_cases e2 : ft = 2
          · have hq2 : (ft == 2) = true := by simp [e2]
            have HN : Hid (settleN ss ws fs (k + 1) = cur.set p (tearOf (cur.getD p ByteArray.empty) x2)) := Lib.hid (by rw [HK.out]; unfold stepF; rw [HFT.out, if_neg e1, if_pos e2]; rfl)
            clear e1 e2
            have hsl : (cur.getD p ByteArray.empty).size ≤ 100 := hold
            generalize cur.getD p ByteArray.empty = y at hcd hold HT HN hsl
            have HXa := Lib.hid (Box.new wr 87 #[.int .i64 (p : Int), .string x2])
            go_wp2
            generalize wr.alloc (.cells #[.int .i64 (p : Int), .string x2] 87) = wa at hcd hfr f2 HR3 HX3 HY3 HZ3 HB3 HXa ⊢
            have g0 : wa.cell? ⟨wr.heap.size, 0, none⟩ = some (.int .i64 (p : Int)) := HXa.out.cell 0 rfl
            have g1 : wa.cell? ⟨wr.heap.size, 1, none⟩ = some (.string x2) := HXa.out.cell 1 rfl
            have k4 : Below wa.heap.size wa wa.drew := (Below.refl _ _).drew
            have HRs := Lib.hid ((HR3.out.below k4).set hpn (tearOf y x2))
            have HXs := Lib.hid ((HX3.out.step k4).far (p := ⟨gb, p, none⟩) (by show w.heap.size ≠ gb; have := HG.out; omega) (.string (tearOf y x2)))
            have HYs := Lib.hid ((HY3.out.step k4).far (p := ⟨gb, p, none⟩) (by show w.heap.size + 1 ≠ gb; have := HG.out; omega) (.string (tearOf y x2)))
            have HZs := Lib.hid ((HZ3.out.step k4).far (p := ⟨gb, p, none⟩) e64 (.string (tearOf y x2)))
            have HBs := Lib.hid ((bt HB3.out k4).setCell (p := ⟨gb, p, none⟩) (by show w.heap.size ≤ gb; have := HG.out; omega) (.string (tearOf y x2)))
            clear HR3 HX3 HY3 HZ3 HXa
            obtain ⟨uu, HU⟩ : ∃ u, Hid (u = x2.extract 0 (x2.size / 2)) := ⟨_, Lib.hid rfl⟩
            have su : uu.size ≤ 100 := by rw [HU.out, extract_size]; omega
            have hsl1 : ∀ W, (Instr.slice 9 (.string x2) none (some (.int .i64 ((x2.size : Int) / 2))) none).run Try.prog W = .ok (.string uu) W := fun W => by
              rw [run_slice_string_h W 9 x2 Try.underlying9 .i64 ((x2.size : Int) / 2) (by omega) (by omega), HU.out, show ((x2.size : Int) / 2).toNat = x2.size / 2 by omega]
            by_cases hmn : (y.size : Int) < (x2.size : Int) / 2
            · obtain ⟨vv, HVv⟩ : ∃ v, Hid (v = y.extract y.size y.size) := ⟨_, Lib.hid rfl⟩
              have sv : vv.size ≤ 100 := by rw [HVv.out, extract_size]; omega
              have hsl2 : ∀ W, (Instr.slice 9 (.string y) (some (.int .i64 (y.size : Int))) none none).run Try.prog W = .ok (.string vv) W := fun W => by
                rw [run_slice_string_l W 9 y Try.underlying9 .i64 (y.size : Int) (by omega) (by omega), HVv.out]; rfl
              have HE : Hid (uu ++ vv = tearOf y x2) := Lib.hid (by rw [HU.out, HVv.out, ← HT.out, Nat.min_eq_right (by omega)])
              have s3 : ¬ 9223372036854775807 < uu.size + vv.size := by omega
              clear su sv
              go_still_tail 15, (by kernel_rfl)
              change wpList _ _ _ _ _ wa.drew
              rw [HE.out]
              go_wp2
              go_roundw
              case rel => exact ⟨k + 1, by omega, by go_num, HBs.out, HXs, HYs, HZs, by rw [HN.out]; exact HRs⟩
              case measure => simp [intOf]; omega
            · obtain ⟨vv, HVv⟩ : ∃ v, Hid (v = y.extract (x2.size / 2) y.size) := ⟨_, Lib.hid rfl⟩
              have sv : vv.size ≤ 100 := by rw [HVv.out, extract_size]; omega
              have hsl2 : ∀ W, (Instr.slice 9 (.string y) (some (.int .i64 ((x2.size : Int) / 2))) none none).run Try.prog W = .ok (.string vv) W := fun W => by
                rw [run_slice_string_l W 9 y Try.underlying9 .i64 ((x2.size : Int) / 2) (by omega) (by omega), HVv.out, show ((x2.size : Int) / 2).toNat = x2.size / 2 by omega]
              have HE : Hid (uu ++ vv = tearOf y x2) := Lib.hid (by rw [HU.out, HVv.out, ← HT.out, Nat.min_eq_left (by omega)])
              have s3 : ¬ 9223372036854775807 < uu.size + vv.size := by omega
              clear su sv
              go_still_tail 15, (by kernel_rfl)
              change wpList _ _ _ _ _ wa.drew
              rw [HE.out]
              go_wp2
              go_roundw
              case rel => exact ⟨k + 1, by omega, by go_num, HBs.out, HXs, HYs, HZs, by rw [HN.out]; exact HRs⟩
              case measure => simp [intOf]; omega
          · have hq2 : (ft == 2) = false := by simp [e2]
            have HN : Hid (settleN ss ws fs (k + 1) = cur) := Lib.hid (by rw [HK.out]; unfold stepF; rw [HFT.out, if_neg e1, if_neg e2])
            clear e1 e2
            generalize cur.getD p ByteArray.empty = y at hcd hold HT
            go_wp2
            go_roundw
            case rel => exact ⟨k + 1, by omega, by go_num, HB3.out, HX3, HY3, HZ3, by rw [HN.out]; exact HR3⟩
            case measure => simp [intOf]; omega
    · have f1 : wr.cell? ⟨w.heap.size, 1, none⟩ = some (.slice C m d) := X.out.cell 1 rfl
      have f2 : wr.cell? ⟨w1.heap.size + 1, 0, none⟩ = some (.slice (some ⟨gb, 0, none⟩) n cap) := Z.out.cell 0 rfl
      have f3 : wr.cell? ⟨w1.heap.size + 1, 1, none⟩ = some (.slice (some ⟨w1.heap.size, 0, none⟩) 0 0) := Z.out.cell 1 rfl
      have g0 := Y.out.cell 0 rfl
      have g1 := Y.out.cell 1 rfl
      have g2 := Y.out.frozen 0
      have g3 := Y.out.frozen 1
      go_wp2
      have ek : k = m := by omega
      subst ek
      refine bodyPost_ret (v := .agg #[.slice (some ⟨gb, 0, none⟩) n cap, .slice (some ⟨w1.heap.size, 0, none⟩) 0 0]) (by simp [results, Try.results90, go_sem, g0, g1]) rfl ?_
      have hne : gb ≠ w.heap.size + 1 := by have := HG.out; omega
      refine ⟨_, _, _, _, _, _, rfl, Lib.hid (by rw [settleN_len, HL.out]), Lib.hid rfl, Lib.hid ?_, Lib.hid (.inl rfl), (hbw.setCell (by show w.heap.size ≤ w.heap.size + 1; omega) _).setCell (by show w.heap.size ≤ w.heap.size + 1; omega) _⟩
      refine ((R.out.far (a := ⟨w.heap.size + 1, 0, none⟩) hne _).far (a := ⟨w.heap.size + 1, 1, none⟩) hne _).own (by have := HG.out; omega) ?_
      have := R.out.lt
      simpa [World.setCell] using this
end Go.Proofs.Ytlfmniekbiffjaa

/- Contracts of both FlushDisk. -/
namespace Go.Proofs.Ytlfmniekbiffjaa
open Go.RowKit

def flushS (ss : List ByteArray) (ws : List (Int × ByteArray)) : List ByteArray := if okDisk ss ws = true then settleN ss ws [1] ws.length else []
def flushC (ss : List ByteArray) (ws : List (Int × ByteArray)) : Int := if okDisk ss ws = true then 0 else 1

/-- The end of a call that hands back a disk with a code out of a result cell at block b. -/
theorem gives_none {w w' : World} {code : Int} (hb : Below w.heap.size w w') : GivesDiskCode [] [] code w (.returned (.tuple #[.agg #[.slice none 0 0, .slice none 0 0], .int .i64 code])) w' :=
  ⟨none, 0, 0, none, 0, 0, rfl, Lib.hid rfl, Lib.hid rfl, Lib.hid (.inl rfl), Lib.hid (.inl rfl), hb⟩

theorem flush_bound (ss : List ByteArray) (ws : List (Int × ByteArray)) (h : ss.length ≤ 1048576) : (flushS ss ws).length ≤ 1048577 ∧ ([] : List (Int × ByteArray)).length ≤ 1048577 := by
  unfold flushS
  split
  · rw [settleN_len]; exact ⟨by omega, by simp⟩
  · exact ⟨by simp, by simp⟩
end Go.Proofs.Ytlfmniekbiffjaa

/- Contracts of both CrashDisk. -/
namespace Go.Proofs.Ytlfmniekbiffjaa
open Go.RowKit

def fateB (z : Int) : Bool := decide (0 ≤ z ∧ z ≤ 2)
def okF (fs : List Int) : Bool := fs.all fateB

set_option maxRecDepth 100000 in
theorem isFate (z : Int) (w : World) : Calls Try.prog 91 #[.int .i64 z] w fun e w' => e = .returned (.bool (fateB z)) ∧ w = w' := by
  go_enter Try.func91, Try.ntmps91
  go_wp2
  all_goals go_ret
  all_goals (refine ⟨ret_bool ?_, rfl⟩)
  all_goals (unfold fateB; rw [Bool.eq_iff_iff]; simp; try omega)
set_option maxRecDepth 100000 in
theorem l01In2 (z : Int) (w : World) : Calls Try.prog 40 #[.int .i64 z, .int .i64 0, .int .i64 2] w fun e w' => e = .returned (.bool (fateB z)) ∧ w = w' := by
  go_enter Try.func40, Try.ntmps40
  go_wp2
  all_goals go_ret
  all_goals (refine ⟨ret_bool ?_, rfl⟩)
  all_goals (unfold fateB; rw [Bool.eq_iff_iff]; simp; try omega)

set_option maxRecDepth 100000 in
set_option maxHeartbeats 1000000 in
theorem l01Fates (F : Option Addr) (nf cf : Nat) (fs : List Int) (w : World) (hf : fs.length = nf) (hnf : nf ≤ maxLen) (i : IntL w F fs) :
    Calls Try.prog 89 #[.slice F nf cf] w fun e w' => e = .returned (.bool (okF fs)) ∧ w = w' := by
  unfold maxLen at hnf
  have HN := Lib.hid hf
  have I := Lib.hid i
  clear hf i
  go_enter Try.func89, Try.ntmps89
  go_wp2
  go_loop [3] (fun q => ∃ k : Nat, k ≤ nf ∧ q = .int .i64 k ∧ Hid (okF fs = (fs.drop k).all fateB)) (fun q => nf - (intOf q).toNat)
  case atStart => exact ⟨0, Nat.zero_le _, rfl, Lib.hid rfl⟩
  case round =>
    obtain ⟨k, hk, rfl, HT⟩ := hrel
    by_cases hlt : k < nf
    · obtain ⟨b, off, rfl, hc⟩ := I.out k (by rw [HN.out]; exact hlt)
      have HS := Lib.hid (all_step fateB fs 0 k (by rw [HN.out]; exact hlt))
      generalize fs.getD k 0 = z at hc HS
      have hi : (k : Int) < (nf : Int) := by omega
      have HC := Lib.hid (fun W => l01In2 z W)
      by_cases hE : fateB z = true
      · go_wp2_with (first | (go_at_call 40; refine (HC.out _).mono ?_; rintro e w' ⟨rfl, rfl⟩))
        go_round
        case rel => exact ⟨k + 1, by omega, by go_num, Lib.hid (by rw [HT.out, HS.out, hE]; rfl)⟩
        case measure => simp [intOf]; omega
      · have hE' : fateB z = false := by simpa using hE
        clear hE
        go_wp2_with (first | (go_at_call 40; refine (HC.out _).mono ?_; rintro e w' ⟨rfl, rfl⟩))
        go_ret
        exact ⟨ret_bool (by rw [HT.out, HS.out, hE']; rfl), rfl⟩
    · go_wp2
      go_ret
      exact ⟨ret_bool (by rw [HT.out]; exact (all_end _ _ _ (by rw [HN.out]; omega)).symm), rfl⟩

set_option maxRecDepth 100000 in
set_option maxHeartbeats 2000000 in
theorem allFates (F : Option Addr) (nf cf : Nat) (fs : List Int) (w : World) (hf : fs.length = nf) (hnf : nf ≤ maxLen) (i : IntL w F fs) :
    Calls Try.prog 56 #[.slice F nf cf] w fun e w' => e = .returned (.bool (okF fs)) ∧ w = w' := by
  unfold maxLen at hnf
  have HN := Lib.hid hf
  have I := Lib.hid i
  clear hf i
  go_enter Try.func56, Try.ntmps56
  go_wp2
  go_loop [7] (fun q => ∃ k : Nat, k ≤ nf ∧ q = .int .i64 k ∧ Hid (okF fs = (fs.drop k).all fateB)) (fun q => nf - (intOf q).toNat)
  case atStart => exact ⟨0, Nat.zero_le _, rfl, Lib.hid rfl⟩
  case round =>
    obtain ⟨k, hk, rfl, HT⟩ := hrel
    by_cases hlt : k < nf
    · obtain ⟨b, off, rfl, hc⟩ := I.out k (by rw [HN.out]; exact hlt)
      have HS := Lib.hid (all_step fateB fs 0 k (by rw [HN.out]; exact hlt))
      generalize fs.getD k 0 = z at hc HS
      have hi : (k : Int) < (nf : Int) := by omega
      have HC := Lib.hid (fun W => isFate z W)
      by_cases hE : fateB z = true
      · go_wp2_with (first | (go_at_call 91; refine (HC.out _).mono ?_; rintro e w' ⟨rfl, rfl⟩))
        go_round
        case rel => exact ⟨k + 1, by omega, by go_num, Lib.hid (by rw [HT.out, HS.out, hE]; rfl)⟩
        case measure => simp [intOf]; omega
      · have hE' : fateB z = false := by simpa using hE
        clear hE
        go_wp2_with (first | (go_at_call 91; refine (HC.out _).mono ?_; rintro e w' ⟨rfl, rfl⟩))
        go_ret
        exact ⟨ret_bool (by rw [HT.out, HS.out, hE']; rfl), rfl⟩
    · go_wp2
      go_ret
      exact ⟨ret_bool (by rw [HT.out]; exact (all_end _ _ _ (by rw [HN.out]; omega)).symm), rfl⟩

def crashS (ss : List ByteArray) (ws : List (Int × ByteArray)) (fs : List Int) : List ByteArray :=
  if 4096 < fs.length then [] else if okDisk ss ws = true then (if okF fs = true then settleN ss ws fs ws.length else []) else []
def crashC (ss : List ByteArray) (ws : List (Int × ByteArray)) (fs : List Int) : Int :=
  if 4096 < fs.length then 2 else if okDisk ss ws = true then (if okF fs = true then 0 else 4) else 1
theorem crash_bound (ss : List ByteArray) (ws : List (Int × ByteArray)) (fs : List Int) (h : ss.length ≤ 1048576) : (crashS ss ws fs).length ≤ 1048577 ∧ ([] : List (Int × ByteArray)).length ≤ 1048577 := by
  refine ⟨?_, by simp⟩
  unfold crashS
  split
  · simp
  · split
    · split
      · rw [settleN_len]; omega
      · simp
    · simp

/-- A disk stored into the result's cell: the rows stay. -/
theorem own_stored {w w1 w2 : World} {A2 C2 : Option Addr} {n2 c2 m2 d2 : Nat} {rs : List ByteArray} (hb : Below w.heap.size w w1) (hy : w.heap.size + 1 < w1.heap.size) (S2 : OwnS w2 w1.heap.size w2.heap.size A2 rs) :
    OwnS ((w2.setCell ⟨w.heap.size + 1, 0, none⟩ (.slice A2 n2 c2)).setCell ⟨w.heap.size + 1, 1, none⟩ (.slice C2 m2 d2)) w.heap.size ((w2.setCell ⟨w.heap.size + 1, 0, none⟩ (.slice A2 n2 c2)).setCell ⟨w.heap.size + 1, 1, none⟩ (.slice C2 m2 d2)).heap.size A2 rs := by
  have e1 : (((w2.setCell ⟨w.heap.size + 1, 0, none⟩ (.slice A2 n2 c2)).setCell ⟨w.heap.size + 1, 1, none⟩ (.slice C2 m2 d2)).heap.size) = w2.heap.size := by simp [World.setCell]
  have k1 : Btw (w.heap.size + 1) (w.heap.size + 1 + 1) w2 ((w2.setCell ⟨w.heap.size + 1, 0, none⟩ (.slice A2 n2 c2)).setCell ⟨w.heap.size + 1, 1, none⟩ (.slice C2 m2 d2)) :=
    ((Btw.refl _ _ _).setCell (by show w.heap.size + 1 ≤ w.heap.size + 1; omega) (by show w.heap.size + 1 < w.heap.size + 1 + 1; omega) _).setCell (by show w.heap.size + 1 ≤ w.heap.size + 1; omega) (by show w.heap.size + 1 < w.heap.size + 1 + 1; omega) _
  rw [e1]
  exact (S2.btw k1 (.inr (by omega))).wide hb.size (Nat.le_refl _)
theorem below_stored {w w2 : World} {u v : Value} (hb : Below w.heap.size w w2) : Below w.heap.size w ((w2.setCell ⟨w.heap.size + 1, 0, none⟩ u).setCell ⟨w.heap.size + 1, 1, none⟩ v) :=
  (hb.setCell (by show w.heap.size ≤ w.heap.size + 1; omega) _).setCell (by show w.heap.size ≤ w.heap.size + 1; omega) _

theorem all_at {zs : List Int} (h : okF zs = true) (k : Nat) (hk : k < zs.length) : fateB (zs.getD k 0) = true := by
  unfold okF at h
  rw [List.all_eq_true] at h
  exact h _ (by rw [List.getD_eq_getElem?_getD, List.getElem?_eq_getElem hk]; exact List.getElem_mem _)

end Go.Proofs.Ytlfmniekbiffjaa
