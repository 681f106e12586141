/- Texts of this claim, one behind the other: NewestSpec, FreeSpec, LoadSpec, PlanFacts, CommitMath, CommitFacts, RootMath, DiskMath. -/
import Derived.Test.YtcchhbkbnbphhaaNewest
import Derived.Deep.RegionHeld3
import Derived.Test.YtcchhbkbnbphhaaSettle
import Derived.Test.YtcchhbkbnbphhaaReadSpec
import Derived.Test.YtcchhbkbnbphhaaFormatImpl
import Derived.Test.YtcchhbkbnbphhaaM7
/- The contracts of spec.l02Newest and spec.Newest. -/
namespace Go.Proofs.Ytcchhbkbnbphhaa
open Go.RowKit

def slotOf (b : Best) : Int := if b.c = 0 then b.s else -1
def GivesSlot (b : Best) (w : World) (e : Ending) (w' : World) : Prop :=
  ∃ A n c, e = .returned (.tuple #[.agg #[.int .i64 b.g, .slice A n c], .int .i64 (slotOf b)]) ∧ Hid (b.z.length = n) ∧ Hid (OwnI w' w.heap.size w'.heap.size A b.z) ∧ Below w.heap.size w w'

set_option maxRecDepth 100000 in
set_option maxHeartbeats 4000000 in
theorem l02Newest (A C : Option Addr) (n c m d : Nat) (ss : List ByteArray) (ws : List (Int × ByteArray)) (w : World) (hl : ss.length = n) (hm : ws.length = m) (hok : okDisk ss ws = true) (h : StrL w A ss) (g : WrL w C ws) :
    Calls Try.prog 47 #[.agg #[.slice A n c, .slice C m d]] w (GivesSlot (best (fun k => readS ss ws k) 2) w) := by
  have hlen := okDisk_len hok
  have HC0 := Lib.hid (fun W (hb : Below w.heap.size w W) => l01Read A C n c m d ss ws 0 W hl hm (by unfold maxLen; omega) (by unfold maxLen; omega) (h.below hb) (g.below hb) (by omega))
  have HC1 := Lib.hid (fun W (hb : Below w.heap.size w W) => l01Read A C n c m d ss ws 1 W hl hm (by unfold maxLen; omega) (by unfold maxLen; omega) (h.below hb) (g.below hb) (by omega))
  have s0 := readS_small hok 0 (by omega)
  have s1 := readS_small hok 1 (by omega)
  have HB := Lib.hid (best_two (fun k => readS ss ws k) s0 s1)
  rw [show ((0 : Nat) : Int) = 0 from rfl] at HC0 HB s0
  rw [show ((1 : Nat) : Int) = 1 from rfl] at HC1 HB s1
  generalize best (fun k => readS ss ws k) 2 = B at HB
  generalize readS ss ws 0 = t0 at HC0 HB s0
  generalize readS ss ws 1 = t1 at HC1 HB s1
  have HR0 := Lib.hid (fun W => l02Read t0 W (by unfold maxLen; omega))
  have HR1 := Lib.hid (fun W => l02Read t1 W (by unfold maxLen; omega))
  generalize okG t0.data.toList = g0 at HR0 HB
  generalize okZ t0.data.toList = z0 at HR0 HB
  generalize okG t1.data.toList = g1 at HR1 HB
  generalize okZ t1.data.toList = z1 at HR1 HB
  generalize rdB t0.data.toList = k0 at HR0 HB
  generalize rdB t1.data.toList = k1 at HR1 HB
  clear hl hm hok h g hlen s0 s1
  obtain ⟨W0, hW0⟩ : ∃ W0, W0 = (w.alloc (.cells #[.slice A n c, .slice C m d] 26)).alloc (.cells #[.int .i64 0, .slice none 0 0] 31) := ⟨_, rfl⟩
  have hb0 : Below w.heap.size w W0 := by rw [hW0]; exact bt (alloc_below _ _) (alloc_below _ _)
  have X0 : Hid (Box W0 w.heap.size 26 #[.slice A n c, .slice C m d]) := Lib.hid (by rw [hW0]; exact (Box.new _ _ _).alloc _)
  have X1 : Hid (Box W0 (w.heap.size + 1) 31 #[.int .i64 0, .slice none 0 0]) := Lib.hid (by
    rw [hW0]; simpa using Box.new (w.alloc (.cells #[.slice A n c, .slice C m d] 26)) 31 #[.int .i64 0, .slice none 0 0])
  have HW0 := Lib.hid hW0
  clear hW0
  go_enter Try.func47, Try.ntmps47
  go_wp2_with fail
  rw [← HW0.out]
  clear HW0
  refine (HC0.out W0 hb0).mono ?_
  rintro e w1 ⟨rfl, hb1⟩
  go_wp2_with fail
  refine (HR0.out w1).mono ?_
  rintro e w2 ⟨A2, n2, c2, rfl, L2, O2, hb2⟩
  have k3 := bt (bt hb1 hb2) (alloc_below w2 (.cells #[.int .i64 g0, .slice A2 n2 c2] 31))
  have Y0 := Lib.hid (X0.out.step k3)
  have Y1 := Lib.hid (X1.out.step k3)
  have Y2 := Lib.hid (Box.new w2 31 #[.int .i64 g0, .slice A2 n2 c2])
  have O3 := Lib.hid (O2.out.below (alloc_below w2 (.cells #[.int .i64 g0, .slice A2 n2 c2] 31)))
  have Z1 : Hid (w.heap.size ≤ w1.heap.size ∧ w1.heap.size ≤ w2.heap.size) := Lib.hid ⟨Nat.le_trans hb0.size hb1.size, hb2.size⟩
  have hb3 := bt hb0 k3
  have f0 := Y0.out.cell 0 rfl
  have f1 := Y0.out.cell 1 rfl
  clear hb1 hb2 k3 X0 X1 O2 hb0
  go_wp2_with fail
  generalize w2.alloc (.cells #[.int .i64 g0, .slice A2 n2 c2] 31) = w3 at Y0 Y1 Y2 O3 hb3 f0 f1 ⊢
  refine (HC1.out w3 hb3).mono ?_
  rintro e w4 ⟨rfl, hb4⟩
  clear f0 f1
  go_wp2_with fail
  refine (HR1.out w4).mono ?_
  rintro e w5 ⟨A5, n5, c5, rfl, L5, O5, hb5⟩
  have k6 := bt (bt hb4 hb5) (alloc_below w5 (.cells #[.int .i64 g1, .slice A5 n5 c5] 31))
  have V1 := Lib.hid (Y1.out.step k6)
  have V2 := Lib.hid (Y2.out.step k6)
  have V3 := Lib.hid (Box.new w5 31 #[.int .i64 g1, .slice A5 n5 c5])
  have P2 := Lib.hid (O3.out.below k6)
  have P5 := Lib.hid (O5.out.below (alloc_below w5 (.cells #[.int .i64 g1, .slice A5 n5 c5] 31)))
  have Z2 : Hid (w2.heap.size < w3.heap.size ∧ w3.heap.size ≤ w4.heap.size ∧ w4.heap.size ≤ w5.heap.size ∧ w5.heap.size < (w5.alloc (.cells #[.int .i64 g1, .slice A5 n5 c5] 31)).heap.size) := Lib.hid ⟨Y2.out.lt, hb4.size, hb5.size, V3.out.lt⟩
  have hb6 := bt hb3 k6
  clear hb4 hb5 k6 Y0 Y1 Y2 O3 O5 hb3 HC0 HC1 HR0 HR1
  have y0 := V1.out.cell 0 rfl
  have y1 := V1.out.cell 1 rfl
  have y2 := V1.out.frozen 0
  have y3 := V1.out.frozen 1
  have y4 := V2.out.cell 0 rfl
  have y5 := V2.out.cell 1 rfl
  cases k0 with
  | true =>
    cases k1 with
    | true =>
      by_cases hq : g1 ≤ g0
      · have HV : Hid (B = ⟨g0, z0, 0, 0⟩) := Lib.hid (by rw [HB.out, if_pos ⟨rfl, .inr hq⟩])
        go_wp2
        refine bodyPost_ret (v := .tuple #[.agg #[.int .i64 g0, .slice A2 n2 c2], .int .i64 0]) (by simp [results, Try.results47, go_sem, y0, y1]) rfl ?_
        rw [HV.out]
        exact ⟨_, _, _, rfl, L2, Lib.hid (((P2.out.wide (lo' := w.heap.size) (hi' := w5.heap.size) (by have := Z1.out; omega) (by have := Z2.out; omega)).two V1.out (by decide) _ _).wide (Nat.le_refl _) (by simp [World.setCell])), below_st2 hb6 (by omega) _ _⟩
      · have HV : Hid (B = ⟨g1, z1, 1, 0⟩) := Lib.hid (by rw [HB.out, if_neg (by simp [hq]), if_pos rfl])
        have hq' : ¬ g1 ≤ g0 := hq
        go_wp2
        refine bodyPost_ret (v := .tuple #[.agg #[.int .i64 g1, .slice A5 n5 c5], .int .i64 1]) (by simp [results, Try.results47, go_sem, y0, y1]) rfl ?_
        rw [HV.out]
        exact ⟨_, _, _, rfl, L5, Lib.hid (((P5.out.wide (lo' := w.heap.size) (hi' := w5.heap.size) (by have := Z1.out; have := Z2.out; omega) (by have := Z2.out; omega)).two V1.out (by decide) _ _).wide (Nat.le_refl _) (by simp [World.setCell])), below_st2 hb6 (by omega) _ _⟩
    | false =>
      have HV : Hid (B = ⟨g0, z0, 0, 0⟩) := Lib.hid (by rw [HB.out, if_pos ⟨rfl, .inl rfl⟩])
      go_wp2
      refine bodyPost_ret (v := .tuple #[.agg #[.int .i64 g0, .slice A2 n2 c2], .int .i64 0]) (by simp [results, Try.results47, go_sem, y0, y1]) rfl ?_
      rw [HV.out]
      exact ⟨_, _, _, rfl, L2, Lib.hid (((P2.out.wide (lo' := w.heap.size) (hi' := w5.heap.size) (by have := Z1.out; omega) (by have := Z2.out; omega)).two V1.out (by decide) _ _).wide (Nat.le_refl _) (by simp [World.setCell])), below_st2 hb6 (by omega) _ _⟩
  | false =>
    cases k1 with
    | true =>
      have HV : Hid (B = ⟨g1, z1, 1, 0⟩) := Lib.hid (by rw [HB.out, if_neg (by simp), if_pos rfl])
      go_wp2
      refine bodyPost_ret (v := .tuple #[.agg #[.int .i64 g1, .slice A5 n5 c5], .int .i64 1]) (by simp [results, Try.results47, go_sem, y0, y1]) rfl ?_
      rw [HV.out]
      exact ⟨_, _, _, rfl, L5, Lib.hid (((P5.out.wide (lo' := w.heap.size) (hi' := w5.heap.size) (by have := Z1.out; have := Z2.out; omega) (by have := Z2.out; omega)).two V1.out (by decide) _ _).wide (Nat.le_refl _) (by simp [World.setCell])), below_st2 hb6 (by omega) _ _⟩
    | false =>
      have HV : Hid (B = ⟨0, [], 0, 9⟩) := Lib.hid (by rw [HB.out, if_neg (by simp), if_neg (by simp)])
      go_wp2
      refine bodyPost_ret (v := .tuple #[.agg #[.int .i64 0, .slice none 0 0], .int .i64 (-1)]) (by simp [results, Try.results47, go_sem, y0, y1]) rfl ?_
      rw [HV.out]
      exact ⟨_, _, _, rfl, Lib.hid rfl, Lib.hid (.inl rfl), below_st2 hb6 (by omega) _ _⟩

theorem best_code (t : Nat → ByteArray) (h0 : (t 0).size ≤ 100) (h1 : (t 1).size ≤ 100) : (best t 2).c = 0 ∧ (0 ≤ (best t 2).s) ∨ best t 2 = ⟨0, [], 0, 9⟩ := by
  rw [best_two t h0 h1]
  split
  · exact .inl ⟨rfl, by simp⟩
  · split
    · exact .inl ⟨rfl, by simp⟩
    · exact .inr rfl

end Go.Proofs.Ytcchhbkbnbphhaa

/- Contracts of l02Free and of both FreeSectors. -/
namespace Go.Proofs.Ytcchhbkbnbphhaa
open Go.RowKit

set_option maxRecDepth 100000 in
set_option maxHeartbeats 2000000 in
theorem l02Free (g : Int) (A : Option Addr) (n c : Nat) (zs : List Int) (w : World) (hl : zs.length = n) (hn : n ≤ maxLen) (h : IntL w A zs) :
    Calls Try.prog 48 #[.agg #[.int .i64 g, .slice A n c]] w (GivesInts (freeL zs) w) := by
  have HIn := Lib.hid (fun W (hb : Below w.heap.size w W) z => l02In A n c zs z W hl hn (h.below hb))
  obtain ⟨W0, hW0⟩ : ∃ W0, W0 = (w.alloc (.cells #[.int .i64 g, .slice A n c] 31)).alloc (.cells #[] 3) := ⟨_, rfl⟩
  have hb0 : Below w.heap.size w W0 := by rw [hW0]; exact bt (alloc_below _ _) (alloc_below _ _)
  have X0 : Hid (Box W0 w.heap.size 31 #[.int .i64 g, .slice A n c]) := Lib.hid (by rw [hW0]; exact (Box.new _ _ _).alloc _)
  have X1 : Hid (Box W0 (w.heap.size + 1) 3 #[]) := Lib.hid (by rw [hW0]; simpa using Box.new (w.alloc (.cells #[.int .i64 g, .slice A n c] 31)) 3 #[])
  have hs0 : w.heap.size + 1 ≤ W0.heap.size := by have := X1.out.lt; omega
  have HW0 := Lib.hid hW0
  clear hl hn h hW0
  go_enter Try.func48, Try.ntmps48
  go_wp2
  rw [← HW0.out]
  clear HW0
  go_loopw [4, 3] (fun i v wr => ∃ (j : Nat) (A' : Option Addr) (l c' : Nat), j ≤ 46 ∧ i = .int .i64 ((j + 2 : Nat) : Int) ∧ v = .slice A' l c' ∧ Hid ((frN zs j).length = l) ∧ l ≤ 46 ∧ Below w.heap.size w wr ∧ Hid (GroI wr (w.heap.size + 1) (.slice A' l c') (frN zs j)) ∧ Hid (Box wr w.heap.size 31 #[.int .i64 g, .slice A n c]) ∧ w.heap.size + 1 ≤ wr.heap.size) (fun i _ _ => 48 - (intOf i).toNat)
  case atStart => exact ⟨0, _, 0, 0, by omega, rfl, rfl, Lib.hid rfl, by omega, hb0, Lib.hid (rowv_empty (Nat.le_refl _) X1.out), X0, hs0⟩
  case round =>
    clear hb0 X0 X1 hs0
    obtain ⟨j, A', l, c', hj, rfl, rfl, HLl, hl46, hbw, HG, X0, hsz⟩ := hrel
    have f1 := X0.out.cell 1 rfl
    by_cases hlt : j < 46
    · have hi : ((j + 2 : Nat) : Int) < 48 := by omega
      have HI := Lib.hid (HIn.out wr hbw ((j + 2 : Nat) : Int))
      by_cases hM : ((j + 2 : Nat) : Int) ∈ zs
      · have HF := Lib.hid (frN_in zs j hM)
        rw [show decide (((j + 2 : Nat) : Int) ∈ zs) = true from decide_eq_true hM] at HI
        clear hM
        generalize hz : j + 2 = z at HI hi
        have HZ := Lib.hid hz
        have hz1 : z ≤ 1000 := by omega
        clear hz
        go_wp2_with fail
        refine HI.out.mono ?_
        rintro e w' ⟨rfl, rfl⟩
        go_wp2
        go_roundw
        case rel => exact ⟨j + 1, A', l, c', by omega, by have := HZ.out; congr 1; omega, rfl, by rw [HF.out]; exact HLl, hl46, hbw, by rw [HF.out]; exact HG, X0, hsz⟩
        case measure => simp [intOf]; omega
      · have HF := Lib.hid (frN_out zs j hM)
        have HLn := Lib.hid (frN_len zs (j + 1))
        rw [show decide (((j + 2 : Nat) : Int) ∈ zs) = false from decide_eq_false hM] at HI
        clear hM
        generalize hz : j + 2 = z at HI hi HF
        have HZ := Lib.hid hz
        have hz1 : z ≤ 1000 := by omega
        have HRk : Hid (wr.ownsRow (w.heap.size + 1) 3 1 (.slice A' l c') l ((frN zs j).map (Value.int .i64))) := Lib.hid (by have := HG.out; unfold GroI at this; rwa [HLl.out] at this)
        generalize frN zs j = fl at HRk HF HLl
        clear hz HG
        have HBa : Hid (Below wr.heap.size wr (wr.alloc (.cells #[.int .i64 (z : Int)] 3))) := Lib.hid (alloc_below _ _)
        have HOw := Lib.hid (rowv_below HRk.out HBa.out)
        have HNw : Hid (∀ i u, [Value.int .i64 (z : Int)][i]? = some u → (wr.alloc (.cells #[.int .i64 (z : Int)] 3)).cell? ⟨wr.heap.size, i, none⟩ = some u) := Lib.hid (fun i u hi => by
          match i, hi with
          | 0, hi => simp at hi; subst hi; exact (Box.new wr 3 #[.int .i64 (z : Int)]).cell 0 rfl)
        go_wp2_with fail
        refine HI.out.mono ?_
        rintro e w' ⟨rfl, rfl⟩
        go_wp2_with (at_builtin; refine wpList_app_one rfl (.tmp 15) (.tmp 17) 29 3 rfl (.int .i64 0) 1 8 elemInt Try.underlying29 (w.heap.size + 1) (.slice A' l c') l (fl.map (Value.int .i64)) rfl ?hown wr.heap.size 1 rfl [.int .i64 (z : Int)] rfl ?hnews ?hone ?h63 ?hby ?hbase ?_)
        case hown => exact HOw.out
        case hnews => exact HNw.out
        case hone => intro u hu; simp at hu; subst hu; rfl
        case h63 => unfold maxLen; omega
        case hby => omega
        case hbase => simp; omega
        intro A2 c2 w2 hR2 hc2 hg2 hb2
        have HR2 := Lib.hid hR2
        have X2 := Lib.hid ((X0.out.step HBa.out).below hb2 (by omega))
        have hbz : Below w.heap.size w w2 := (bt hbw HBa.out).trans (hb2.mono (by omega))
        have hs2 : w.heap.size + 1 ≤ w2.heap.size := Nat.le_trans (Nat.le_trans hsz HBa.out.size) hb2.size
        clear hR2 hb2 hg2 f1
        go_wp2
        go_roundw
        case rel =>
          refine ⟨j + 1, A2, l + 1, c2, by omega, by have := HZ.out; congr 1; omega, rfl, Lib.hid (by rw [HF.out, List.length_append, HLl.out]; rfl), ?_, hbz, Lib.hid ?_, X2, hs2⟩
          · have := HLn.out; rw [HF.out, List.length_append, HLl.out] at this; simp at this; omega
          · unfold GroI; rw [HF.out, List.length_append, HLl.out, List.map_append]; exact HR2.out
        case measure => simp [intOf]; omega
    · obtain rfl : j = 46 := by omega
      go_wp2
      refine bodyPost_ret (v := .slice A' l c') (by simp [results, Try.results48, go_sem]) rfl ?_
      exact ⟨_, _, _, rfl, HLl, Lib.hid (HG.out.own (by omega)), hbw⟩

def freeOf (ss : List ByteArray) (ws : List (Int × ByteArray)) : List Int × Int := if (newOf ss ws).c = 0 then (freeL (newOf ss ws).z, 0) else ([], (newOf ss ws).c)
theorem newOf_cases (ss : List ByteArray) (ws : List (Int × ByteArray)) : (okDisk ss ws = false ∧ newOf ss ws = ⟨0, [], 0, 1⟩) ∨
    (okDisk ss ws = true ∧ newOf ss ws = best (fun k => readS ss ws k) 2 ∧ ((newOf ss ws).c = 0 ∧ 0 ≤ (newOf ss ws).s ∧ slotOf (newOf ss ws) = (newOf ss ws).s ∨ newOf ss ws = ⟨0, [], 0, 9⟩ ∧ slotOf (newOf ss ws) = -1)) := by
  by_cases hok : okDisk ss ws = true
  · right
    have e : newOf ss ws = best (fun k => readS ss ws k) 2 := by unfold newOf; rw [if_pos hok]
    refine ⟨hok, e, ?_⟩
    rw [e]
    rcases best_code (fun k => readS ss ws k) (readS_small hok 0 (by omega)) (readS_small hok 1 (by omega)) with ⟨h1, h2⟩ | h
    · exact .inl ⟨h1, h2, by unfold slotOf; rw [if_pos h1]⟩
    · exact .inr ⟨h, by rw [h]; rfl⟩
  · left
    exact ⟨by simpa using hok, by unfold newOf; rw [if_neg hok]⟩

end Go.Proofs.Ytcchhbkbnbphhaa

/- The contract of l02Load. -/
namespace Go.Proofs.Ytcchhbkbnbphhaa
open Go.RowKit

def loadL (ss : List ByteArray) (ws : List (Int × ByteArray)) (zs : List Int) : List ByteArray := zs.map (readS ss ws)
def GivesStrs (rs : List ByteArray) (w : World) (e : Ending) (w' : World) : Prop :=
  ∃ A n c, e = .returned (.slice A n c) ∧ Hid (rs.length = n) ∧ Hid (OwnS w' w.heap.size w'.heap.size A rs) ∧ Below w.heap.size w w'

def GivesStrsCode (b : List ByteArray × Int) (w : World) (e : Ending) (w' : World) : Prop :=
  ∃ A n c, e = .returned (.tuple #[.slice A n c, .int .i64 b.2]) ∧ Hid (b.1.length = n) ∧ Hid (OwnS w' w.heap.size w'.heap.size A b.1) ∧ Below w.heap.size w w'
theorem OwnS.wide' {w : World} {lo hi lo' hi' : Nat} {A : Option Addr} {ss : List ByteArray} (h : OwnS w lo hi A ss) (h1 : lo' ≤ lo) (h2 : hi ≤ hi') : OwnS w lo' hi' A ss := by
  rcases h with e | ⟨b, m, f, e, p1, p2, hm, hr, hf⟩
  · exact .inl e
  · exact .inr ⟨b, m, f, e, by omega, by omega, hm, hr, hf⟩
def loadOf (ss : List ByteArray) (ws : List (Int × ByteArray)) : List ByteArray × Int := if (newOf ss ws).c = 0 then (loadL ss ws (newOf ss ws).z, 0) else ([], (newOf ss ws).c)
theorem rd_good (t : ByteArray) (h : rdC t = 0) : (rdZ t).length = 17 ∧ ∀ z ∈ rdZ t, 2 ≤ z ∧ z ≤ 47 := by
  unfold rdC at h
  unfold rdZ
  split at h
  · omega
  · rename_i h1
    rw [if_neg h1]
    split at h
    · rename_i hb
      rw [if_pos hb]
      refine ⟨tabT_len _ _, fun z hz => ?_⟩
      unfold rdB at hb
      simp only [Bool.and_eq_true] at hb
      have hr := hb.2.2.2
      unfold rootB at hr
      simp only [Bool.and_eq_true, List.all_eq_true] at hr
      have := hr.1.2 z hz
      unfold pageB at this
      simpa using this
    · omega
theorem best_good (t : Nat → ByteArray) : ∀ k, (best t k).c = 0 → (best t k).z.length = 17 ∧ ∀ z ∈ (best t k).z, 2 ≤ z ∧ z ≤ 47
  | 0, h => by simp [best] at h
  | k + 1, h => by
    rw [best] at h ⊢
    split
    · rename_i hq
      exact rd_good _ hq.1
    · rename_i hq
      rw [if_neg hq] at h
      exact best_good t k h
theorem newOf_good (ss : List ByteArray) (ws : List (Int × ByteArray)) (h : (newOf ss ws).c = 0) : (newOf ss ws).z.length = 17 ∧ ∀ z ∈ (newOf ss ws).z, 2 ≤ z ∧ z ≤ 47 := by
  unfold newOf at h ⊢
  split at h
  · rename_i hok
    rw [if_pos hok]
    exact best_good _ 2 h
  · simp at h

end Go.Proofs.Ytcchhbkbnbphhaa

/- What a commit's plan is, and its facts: free sectors do not run out, the next table is a good one. -/
namespace Go.Proofs.Ytcchhbkbnbphhaa

theorem frN_held (zs : List Int) : ∀ j : Nat, (frN zs j).length + ((List.range j).filter fun i => decide (((i + 2 : Nat) : Int) ∈ zs)).length = j
  | 0 => rfl
  | j + 1 => by
    have ih := frN_held zs j
    rw [frN, List.range_succ, List.filter_append, List.length_append, List.length_append]
    by_cases h : ((j + 2 : Nat) : Int) ∈ zs
    · rw [if_pos h, List.filter_cons_of_pos (by exact decide_eq_true h)]; simp only [List.filter_nil, List.length_nil, List.length_cons] at ih ⊢; omega
    · rw [if_neg h, List.filter_cons_of_neg (by simpa using h)]; simp only [List.filter_nil, List.length_nil, List.length_cons] at ih ⊢; omega
theorem freeL_len (zs : List Int) (h : zs.length = 17) : 29 ≤ (freeL zs).length ∧ (freeL zs).length ≤ 46 := by
  have h1 := frN_held zs 46
  have h2 := held_le zs 46
  have h3 := frN_len zs 46
  unfold freeL
  omega
theorem frN_in_range (zs : List Int) : ∀ j : Nat, ∀ z ∈ frN zs j, 2 ≤ z ∧ z < (j : Int) + 2
  | 0, z, h => by cases h
  | j + 1, z, h => by
    rw [frN] at h
    rcases List.mem_append.1 h with h | h
    · have := frN_in_range zs j z h; omega
    · split at h
      · cases h
      · simp at h; omega
theorem freeL_in (zs : List Int) : ∀ z ∈ freeL zs, 2 ≤ z ∧ z ≤ 47 := fun z h => by have := frN_in_range zs 46 z h; omega
theorem getD_in {zs : List Int} {i : Nat} (h : i < zs.length) {P : Int → Prop} (hp : ∀ z ∈ zs, P z) : P (zs.getD i 0) := by
  rw [List.getD_eq_getElem?_getD, List.getElem?_eq_getElem h]; exact hp _ (List.getElem_mem _)
theorem withN_in (zs places free : List Int) (hz : ∀ z ∈ zs, 2 ≤ z ∧ z ≤ 47) (hf : ∀ z ∈ free, 2 ≤ z ∧ z ≤ 47) : ∀ i, i ≤ free.length → ∀ z ∈ withN zs places free i, 2 ≤ z ∧ z ≤ 47
  | 0, _, z, h => hz z h
  | i + 1, hi, z, h => by
    rw [withN] at h
    rcases List.mem_or_eq_of_mem_set h with h | h
    · exact withN_in zs places free hz hf i (by omega) z h
    · subst h; exact getD_in (by omega) hf
theorem rd_gen (t : ByteArray) (h : rdC t = 0) : 1 ≤ rdG t ∧ rdG t ≤ 999999 := by
  unfold rdC at h
  unfold rdG
  split at h
  · omega
  · rename_i h1
    rw [if_neg h1]
    split at h
    · rename_i hb
      rw [if_pos hb]
      unfold rdB at hb
      simp only [Bool.and_eq_true] at hb
      have hr := hb.2.2.2
      unfold rootB at hr
      simp only [Bool.and_eq_true] at hr
      have := hr.1.1
      simp at this
      omega
    · omega
theorem best_gen (t : Nat → ByteArray) : ∀ k, (best t k).c = 0 → 1 ≤ (best t k).g ∧ (best t k).g ≤ 999999 ∧ 0 ≤ (best t k).s ∧ (best t k).s < (k : Int)
  | 0, h => by simp [best] at h
  | k + 1, h => by
    rw [best] at h ⊢
    split
    · rename_i hq
      have := rd_gen _ hq.1
      exact ⟨this.1, this.2, by show (0 : Int) ≤ (k : Int); omega, by show (k : Int) < _; omega⟩
    · rename_i hq
      rw [if_neg hq] at h
      have := best_gen t k h
      omega

def planOf (ss ps : List ByteArray) : List (Int × ByteArray) × Int :=
  let b := best (fun k => readS ss [] k) 2
  if b.c ≠ 0 then ([], b.c) else if b.g = 999999 then ([], 7) else
  let pl := diffN ps (loadL ss [] b.z) 17
  if pl.length = 0 then ([], 0) else
  (writesN pl (freeL b.z) ps pl.length ++ [(1 - b.s, rootTx (b.g + 1) (withN b.z pl (freeL b.z) pl.length))], 0)
end Go.Proofs.Ytcchhbkbnbphhaa

/- What Commit and CommitTorn answer. -/
namespace Go.Proofs.Ytcchhbkbnbphhaa

def twoN (ss : List ByteArray) (ls : List (Int × ByteArray)) (fs gs : List Int) : List ByteArray :=
  settleN (settleN ss ls.dropLast fs ls.dropLast.length) (ls.drop (ls.length - 1)) gs (ls.drop (ls.length - 1)).length
def commitOf (ss : List ByteArray) (ws : List (Int × ByteArray)) (ps : List ByteArray) (bud : Int) : List ByteArray × Int :=
  if askC ps ss ws ≠ 0 then ([], askC ps ss ws) else if ¬ (0 ≤ bud ∧ bud ≤ 1000) then ([], 4) else
  if (planOf ss ps).2 ≠ 0 then (ss, (planOf ss ps).2) else
  if bud < ((planOf ss ps).1.length : Int) then (settleN ss ((planOf ss ps).1.take bud.toNat) [1] bud.toNat, 10) else
  (twoN ss (planOf ss ps).1 [1] [1], 0)
def tornOf (ss : List ByteArray) (ws : List (Int × ByteArray)) (ps : List ByteArray) (ph : Int) (fs : List Int) : List ByteArray × Int :=
  if 4096 < fs.length then ([], 2) else if askC ps ss ws ≠ 0 then ([], askC ps ss ws) else if tornC ph fs ≠ 0 then ([], tornC ph fs) else
  if (planOf ss ps).2 ≠ 0 then (ss, (planOf ss ps).2) else
  if ph = 0 then (settleN ss (planOf ss ps).1.dropLast fs (planOf ss ps).1.dropLast.length, 0) else
  if ph = 1 then (twoN ss (planOf ss ps).1 [1] fs, 0) else (twoN ss (planOf ss ps).1 [1] [1], 0)

theorem twoN_nil (ss : List ByteArray) (fs gs : List Int) : twoN ss [] fs gs = ss := rfl
theorem twoN_snoc (ss : List ByteArray) (wl : List (Int × ByteArray)) (x : Int × ByteArray) (fs gs : List Int) : twoN ss (wl ++ [x]) fs gs = settleN (settleN ss wl fs wl.length) [x] gs 1 := by
  have h : (wl ++ [x]).drop ((wl ++ [x]).length - 1) = [x] := by
    rw [List.length_append, List.length_singleton, Nat.add_sub_cancel, List.drop_append_of_le_length (Nat.le_refl _), List.drop_length]; rfl
  unfold twoN
  rw [h, List.dropLast_concat]; rfl
theorem take_snoc (wl : List (Int × ByteArray)) (x : Int × ByteArray) (k : Nat) (h : k ≤ wl.length) : (wl ++ [x]).take k = wl.take k := List.take_append_of_le_length h
end Go.Proofs.Ytcchhbkbnbphhaa

/- Facts on a commit's writes: they fit the disk; parts of a list of writes. -/
namespace Go.Proofs.Ytcchhbkbnbphhaa
open Go.RowKit

theorem rootTx_size (g : Int) (zs : List Int) (h : zs.length = 17) : (rootTx g zs).size = 46 := by
  unfold rootTx
  rw [bs_size, List.length_append, List.length_append, digs_len, tabTx_len, h]
theorem pagesC_17 {ps : List ByteArray} (h : pagesC ps = 0) : ps.length = 17 ∧ ∀ s ∈ ps, s.size ≤ 100 := by
  unfold pagesC at h
  split at h
  · cases h
  · split at h
    · cases h
    · split at h
      · rename_i h1 h2
        refine ⟨by omega, fun s hs => ?_⟩
        rw [List.all_eq_true] at h2
        have := h2 s hs
        unfold okSt at this
        simpa using this
      · cases h
theorem askC_zero {ps ss : List ByteArray} {ws : List (Int × ByteArray)} (h : askC ps ss ws = 0) : ps.length = 17 ∧ (∀ s ∈ ps, s.size ≤ 100) ∧ okDisk ss [] = true ∧ ws = [] := by
  unfold askC at h
  split at h
  · contradiction
  · rename_i hp
    split at h
    · rename_i h2
      have hp' : pagesC ps = 0 := by omega
      obtain rfl : ws = [] := List.eq_nil_of_length_eq_zero h2.2
      exact ⟨(pagesC_17 hp').1, (pagesC_17 hp').2, h2.1, rfl⟩
    · omega
theorem writesN_at (places free : List Int) (ps : List ByteArray) : ∀ i, ∀ x ∈ writesN places free ps i, ∃ j, j < i ∧ x = (free.getD j 0, ps.getD (places.getD j 0).toNat ByteArray.empty)
  | 0, x, h => by simp [writesN] at h
  | i + 1, x, h => by
    unfold writesN at h
    rcases List.mem_append.1 h with q | q
    · obtain ⟨j, hj, e⟩ := writesN_at places free ps i x q
      exact ⟨j, by omega, e⟩
    · rw [List.mem_singleton] at q
      exact ⟨i, by omega, q⟩
theorem plan_ok {ss ps : List ByteArray} (hok : okDisk ss [] = true) (hp : ∀ s ∈ ps, s.size ≤ 100) : Ok ss (planOf ss ps).1 ∧ (planOf ss ps).1.length ≤ 18 := by
  have o := ok_of hok
  have nil : Ok ss ([] : List (Int × ByteArray)) := ⟨o.n48, by simp, o.small, by simp, by simp⟩
  unfold planOf
  by_cases hc : (best (fun k => readS ss [] k) 2).c = 0
  · have hg := best_good (fun k => readS ss [] k) 2 hc
    have hn := best_gen (fun k => readS ss [] k) 2 hc
    generalize best (fun k => readS ss [] k) 2 = b at hc hg hn
    simp only [hc, ne_eq, not_true_eq_false, if_false]
    split
    · exact ⟨nil, by simp⟩
    · split
      · exact ⟨nil, by simp⟩
      · have hd := diffN_len ps (loadL ss [] b.z) 17
        have hf := freeL_len b.z hg.1
        have hfi := freeL_in b.z
        generalize diffN ps (loadL ss [] b.z) 17 = pl at hd
        generalize freeL b.z = fr at hf hfi
        have hw := writesN_len pl fr ps pl.length
        refine ⟨⟨o.n48, ?_, o.small, fun x hx => ?_, fun x hx => ?_⟩, ?_⟩
        · rw [List.length_append, hw, List.length_singleton]; omega
        · rcases List.mem_append.1 hx with q | q
          · obtain ⟨j, hj, rfl⟩ := writesN_at _ _ _ _ x q
            exact getD_small hp _
          · rw [List.mem_singleton] at q
            subst q
            show (rootTx _ _).size ≤ 100
            rw [rootTx_size _ _ (by rw [withN_len]; exact hg.1)]; omega
        · rcases List.mem_append.1 hx with q | q
          · obtain ⟨j, hj, rfl⟩ := writesN_at _ _ _ _ x q
            have := getD_in (zs := fr) (i := j) (by omega) (P := fun z => 2 ≤ z ∧ z ≤ 47) hfi
            show 0 ≤ fr.getD j 0 ∧ fr.getD j 0 ≤ 47
            omega
          · rw [List.mem_singleton] at q
            subst q
            show 0 ≤ 1 - b.s ∧ 1 - b.s ≤ 47
            omega
        · rw [List.length_append, hw, List.length_singleton]; omega
  · rw [if_pos hc]
    exact ⟨nil, by simp⟩
theorem Ok.sub {ss : List ByteArray} {ls ms : List (Int × ByteArray)} (h : Ok ss ls) (hl : ms.length ≤ ls.length) (hs : ∀ x ∈ ms, x ∈ ls) : Ok ss ms := ⟨h.n48, Nat.le_trans hl h.m60, h.small, fun x hx => h.smallW x (hs x hx), fun x hx => h.at_ x (hs x hx)⟩
theorem Ok.take {ss : List ByteArray} {ls : List (Int × ByteArray)} (h : Ok ss ls) (k : Nat) : Ok ss (ls.take k) := h.sub (by rw [List.length_take]; omega) (fun _ hx => List.mem_of_mem_take hx)
theorem Ok.drop {ss : List ByteArray} {ls : List (Int × ByteArray)} (h : Ok ss ls) (k : Nat) : Ok ss (ls.drop k) := h.sub (by rw [List.length_drop]; omega) (fun _ hx => List.mem_of_mem_drop hx)
theorem Ok.settled {ss : List ByteArray} {ls ms : List (Int × ByteArray)} (h : Ok ss ls) (fs : List Int) (g : Ok ss ms) : Ok (settleN ss ls fs ls.length) ms :=
  ⟨by rw [settleN_len]; exact h.n48, g.m60, settleN_small ss ls fs h.small h.smallW _ (Nat.le_refl _), g.smallW, g.at_⟩
theorem WrL.take {w : World} {A : Option Addr} {ws : List (Int × ByteArray)} (h : WrL w A ws) (k : Nat) : WrL w A (ws.take k) := fun i hi => by
  have hi' : i < k ∧ i < ws.length := by rw [List.length_take] at hi; omega
  obtain ⟨b, off, e, h1, h2⟩ := h i hi'.2
  refine ⟨b, off, e, ?_, ?_⟩ <;> rw [List.getD_eq_getElem?_getD, List.getElem?_take, if_pos hi'.1, ← List.getD_eq_getElem?_getD]
  · exact h1
  · exact h2
theorem WrL.drop {w : World} {b off : Nat} {ws : List (Int × ByteArray)} (h : WrL w (some ⟨b, off, none⟩) ws) (k : Nat) : WrL w (some ⟨b, off + k * 2, none⟩) (ws.drop k) := fun i hi => by
  have hi' : k + i < ws.length := by rw [List.length_drop] at hi; omega
  obtain ⟨b', off', e, h1, h2⟩ := h (k + i) hi'
  injection e with e
  injection e with e1 e2
  subst e1 e2
  refine ⟨b, off + k * 2, rfl, ?_, ?_⟩ <;> rw [List.getD_eq_getElem?_getD, List.getElem?_drop, ← List.getD_eq_getElem?_getD]
  · rw [← h1]; congr 2; omega
  · rw [← h2]; congr 2; omega
end Go.Proofs.Ytcchhbkbnbphhaa

/- What the law on roots draws, and what its texts say. Nothing here walks. -/
namespace Go.Proofs.Ytcchhbkbnbphhaa
open Go.RowKit

theorem allDig_app (a b : List UInt8) : allDig (a ++ b) = (allDig a && allDig b) := by simp [allDig]
theorem allDig_digs : ∀ w n, allDig (digs w n) = true
  | 0, _ => rfl
  | w + 1, n => by
    rw [digs, allDig_app, allDig_digs w]
    have := dg_nat n
    simp only [allDig, List.all_cons, List.all_nil, Bool.and_true, Bool.true_and, digC, digB, decide_eq_true_eq]
    omega
theorem numOf_app (a : List UInt8) (c : UInt8) : numOf (a ++ [c]) = 10 * numOf a + (c.toNat - 48) := by simp [numOf]
theorem numOf_digs : ∀ w n, numOf (digs w n) = n % 10 ^ w
  | 0, n => by simp [digs, numOf, Nat.mod_one]
  | w + 1, n => by
    rw [digs, numOf_app, numOf_digs w, dg_nat, Nat.pow_succ]
    have h1 := Nat.mod_mul (x := n) (a := 10) (b := 10 ^ w)
    rw [Nat.mul_comm (10 ^ w) 10]
    omega
theorem allDig_tab : ∀ zs : List Int, allDig (tabTx zs) = true
  | [] => rfl
  | z :: zs => by
    have e : tabTx (z :: zs) = digs 2 z.toNat ++ tabTx zs := by simp [tabTx]
    rw [e, allDig_app, allDig_digs, allDig_tab zs]; rfl
def joinL (g g' : Nat) (zs : List Int) : List UInt8 := digs 6 g ++ (tabTx zs ++ digs 6 g')
theorem joinL_len (g g' : Nat) (zs : List Int) (h : zs.length = 17) : (joinL g g' zs).length = 46 := by
  unfold joinL; simp [digs_len, tabTx_len, h]
theorem join_sec (g g' : Nat) (zs : List Int) (h : zs.length = 17) (hz : ∀ z ∈ zs, 0 ≤ z ∧ z ≤ 99) (k : Nat) (hk : k < 17) : secT (joinL g g' zs) k = zs.getD k 0 := by
  unfold secT joinL
  have e1 : (digs 6 g ++ (tabTx zs ++ digs 6 g')).drop (6 + 2 * k) = (tabTx zs ++ digs 6 g').drop (2 * k) := by
    rw [List.drop_append, List.drop_eq_nil_of_le (by rw [digs_len]; omega), digs_len, List.nil_append, show 6 + 2 * k - 6 = 2 * k by omega]
  have e2 : ((tabTx zs ++ digs 6 g').drop (2 * k)).take 2 = digs 2 (zs.getD k 0).toNat := by
    have h1 : tabTx (zs.take (k + 1)) = tabTx (zs.take k) ++ digs 2 (zs.getD k 0).toNat := tabTx_step zs k (by omega)
    have h2 : tabTx zs = tabTx (zs.take (k + 1)) ++ tabTx (zs.drop (k + 1)) := by
      unfold tabTx; rw [← List.flatMap_append, List.take_append_drop]
    rw [h2, h1, List.append_assoc, List.append_assoc, List.drop_append, List.drop_eq_nil_of_le (by rw [tabTx_len, List.length_take]; omega), List.nil_append, tabTx_len, List.length_take, show 2 * k - 2 * min k zs.length = 0 by omega, List.drop_zero, List.take_append, List.take_of_length_le (by rw [digs_len]; omega), digs_len, Nat.sub_self, List.take_zero, List.append_nil]
  rw [e1, e2, numOf_digs]
  have hm : zs.getD k 0 ∈ zs := by
    rw [List.getD_eq_getElem?_getD, List.getElem?_eq_getElem (by omega), Option.getD_some]; exact List.getElem_mem _
  have := hz _ hm
  omega
theorem join_tab (g g' : Nat) (zs : List Int) (h : zs.length = 17) (hz : ∀ z ∈ zs, 0 ≤ z ∧ z ≤ 99) : tabT (joinL g g' zs) 17 = zs := by
  apply List.ext_getElem (by rw [tabT_len, h])
  intro i h1 h2
  have hi : i < 17 := by rw [tabT_len] at h1; exact h1
  have := join_sec g g' zs h hz i hi
  simp only [tabT, List.getElem_map, List.getElem_range]
  rw [this, List.getD_eq_getElem?_getD, List.getElem?_eq_getElem h2, Option.getD_some]
theorem join_gen (g g' : Nat) (zs : List Int) (hg : g ≤ 999999) : genT (joinL g g' zs) = (g : Int) := by
  unfold genT joinL
  rw [List.take_append, List.take_of_length_le (by rw [digs_len]; omega), digs_len, Nat.sub_self, List.take_zero, List.append_nil, numOf_digs]
  omega
theorem root_list (g : Int) (zs : List Int) : (rootTx g zs).data.toList = joinL g.toNat g.toNat zs := by
  unfold rootTx joinL
  rw [← List.append_assoc]; rfl
end Go.Proofs.Ytcchhbkbnbphhaa

/- Disks that hold a root and its pages: what a plan, its writes and the root's own write make of them. Nothing here walks. -/
namespace Go.Proofs.Ytcchhbkbnbphhaa
open Go.RowKit

theorem readS_nil (ss : List ByteArray) (k : Int) : readS ss [] k = ss.getD k.toNat ByteArray.empty := rfl
theorem bgetD_same (l : List ByteArray) (k : Nat) (v : ByteArray) (hk : k < l.length) : (l.set k v).getD k ByteArray.empty = v := by
  rw [List.getD_eq_getElem?_getD, List.getElem?_set_self hk]; rfl
theorem bgetD_ne (l : List ByteArray) (k j : Nat) (v : ByteArray) (hk : k ≠ j) : (l.set k v).getD j ByteArray.empty = l.getD j ByteArray.empty := by
  rw [List.getD_eq_getElem?_getD, List.getElem?_set_ne hk, ← List.getD_eq_getElem?_getD]
theorem igetD_same (l : List Int) (k : Nat) (v : Int) (hk : k < l.length) : (l.set k v).getD k 0 = v := by
  rw [List.getD_eq_getElem?_getD, List.getElem?_set_self hk]; rfl
theorem igetD_ne (l : List Int) (k j : Nat) (v : Int) (hk : k ≠ j) : (l.set k v).getD j 0 = l.getD j 0 := by
  rw [List.getD_eq_getElem?_getD, List.getElem?_set_ne hk, ← List.getD_eq_getElem?_getD]

def Elder (g : Int) (l : List UInt8) : Prop := l.length ≠ 46 ∨ ∃ h : Nat, (h : Int) < g ∧ l.drop 40 = digs 6 h
structure FD (ss : List ByteArray) (g : Int) (z : List Int) (sl : Int) : Prop where
  ok : okDisk ss [] = true
  slot : sl = 0 ∨ sl = 1
  root : rootB g z = true
  main : ss.getD sl.toNat ByteArray.empty = rootTx g z
  other : Elder g (ss.getD (1 - sl).toNat ByteArray.empty).data.toList

theorem rootB_all {g : Int} {z : List Int} (h : rootB g z = true) : (1 ≤ g ∧ g ≤ 999999) ∧ z.length = 17 ∧ (∀ x ∈ z, 2 ≤ x ∧ x ≤ 47) ∧ z.Nodup := by
  unfold rootB pageB at h
  simp only [Bool.and_eq_true, decide_eq_true_eq, List.all_eq_true] at h
  exact ⟨h.1.1.1, h.1.1.2, h.1.2, h.2⟩
theorem root_reads {g : Int} {z : List Int} (h : rootB g z = true) : rdB (rootTx g z).data.toList = true ∧ genT (rootTx g z).data.toList = g ∧ tabT (rootTx g z).data.toList 17 = z := by
  obtain ⟨h1, h2, h3, h4⟩ := rootB_all h
  have hz : ∀ x ∈ z, 0 ≤ x ∧ x ≤ 99 := fun x hx => by have := h3 x hx; omega
  rw [root_list]
  have e0 := joinL_len g.toNat g.toNat z h2
  have e1 := join_gen g.toNat g.toNat z (by omega)
  have e2 := join_tab g.toNat g.toNat z h2 hz
  have e3 : ((g.toNat : Nat) : Int) = g := by omega
  rw [e3] at e1
  refine ⟨?_, e1, e2⟩
  unfold rdB
  rw [e0, e1, e2, h]
  have a1 : allDig (joinL g.toNat g.toNat z) = true := by unfold joinL; rw [allDig_app, allDig_app, allDig_digs, allDig_tab]; rfl
  have a2 : (joinL g.toNat g.toNat z).take 6 = digs 6 g.toNat := by
    unfold joinL
    rw [List.take_append, List.take_of_length_le (by rw [digs_len]; omega), digs_len, Nat.sub_self, List.take_zero, List.append_nil]
  have a3 : (joinL g.toNat g.toNat z).drop 40 = digs 6 g.toNat := by
    unfold joinL
    rw [← List.append_assoc, List.drop_append, List.drop_eq_nil_of_le (by rw [List.length_append, digs_len, tabTx_len, h2]; omega), List.nil_append, List.length_append, digs_len, tabTx_len, h2, Nat.sub_self, List.drop_zero]
  rw [a1, a2, a3]
  simp
theorem root_ends {g : Int} {z : List Int} (h : rootB g z = true) : (rootTx g z).data.toList.length = 46 ∧ (rootTx g z).data.toList.drop 40 = digs 6 g.toNat := by
  obtain ⟨h1, h2, h3, h4⟩ := rootB_all h
  rw [root_list]
  refine ⟨joinL_len _ _ _ h2, ?_⟩
  unfold joinL
  rw [← List.append_assoc, List.drop_append, List.drop_eq_nil_of_le (by rw [List.length_append, digs_len, tabTx_len, h2]; omega), List.nil_append, List.length_append, digs_len, tabTx_len, h2, Nat.sub_self, List.drop_zero]
theorem Elder.gen {g : Int} {l : List UInt8} (h : Elder g l) (hr : rdB l = true) : okG l < g := by
  have hr' := hr
  unfold rdB at hr
  simp only [Bool.and_eq_true, decide_eq_true_eq] at hr
  unfold okG
  rw [if_pos hr']
  unfold genT
  rcases h with h | ⟨k, hk, e⟩
  · exact absurd hr.1 h
  · rw [hr.2.2.1, e, numOf_digs]
    have : k % 10 ^ 6 ≤ k := Nat.mod_le _ _
    omega
theorem FD.small {ss : List ByteArray} {g : Int} {z : List Int} {sl : Int} (h : FD ss g z sl) : ss.length = 48 ∧ ∀ s ∈ ss, s.size ≤ 100 := by
  have := h.ok
  unfold okDisk okSt at this
  simp only [Bool.and_eq_true, decide_eq_true_eq, List.all_eq_true] at this
  exact ⟨this.1.1, this.2.1⟩
theorem okDisk_of {ss : List ByteArray} (h1 : ss.length = 48) (h2 : ∀ s ∈ ss, s.size ≤ 100) : okDisk ss [] = true := by
  unfold okDisk okSt
  simp only [Bool.and_eq_true, decide_eq_true_eq, List.all_eq_true, List.length_nil]
  exact ⟨⟨h1, by omega⟩, h2, fun x hx => by cases hx⟩
theorem getD_100 {ss : List ByteArray} (h : ∀ s ∈ ss, s.size ≤ 100) (k : Nat) : (ss.getD k ByteArray.empty).size ≤ 100 := getD_small h k
theorem FD.newest {ss : List ByteArray} {g : Int} {z : List Int} {sl : Int} (h : FD ss g z sl) : best (fun k => readS ss [] k) 2 = ⟨g, z, sl, 0⟩ := by
  obtain ⟨q1, q2⟩ := h.small
  rw [best_two _ (by rw [readS_nil]; exact getD_100 q2 _) (by rw [readS_nil]; exact getD_100 q2 _), readS_nil, readS_nil]
  obtain ⟨r1, r2, r3⟩ := root_reads h.root
  have e1 : okG (rootTx g z).data.toList = g := by unfold okG; rw [if_pos r1, r2]
  have e2 : okZ (rootTx g z).data.toList = z := by unfold okZ; rw [if_pos r1, r3]
  have hm := h.main
  have ho := h.other
  rcases h.slot with e | e
  · subst e
    have hm : ss.getD ((0 : Nat) : Int).toNat ByteArray.empty = rootTx g z := hm
    have ho : Elder g (ss.getD ((1 : Nat) : Int).toNat ByteArray.empty).data.toList := ho
    rw [hm, r1, e1, e2]
    rw [if_pos]
    refine ⟨rfl, ?_⟩
    cases hb : rdB (ss.getD ((1 : Nat) : Int).toNat ByteArray.empty).data.toList
    · exact .inl rfl
    · exact .inr (Int.le_of_lt (ho.gen hb))
  · subst e
    have hm : ss.getD ((1 : Nat) : Int).toNat ByteArray.empty = rootTx g z := hm
    have ho : Elder g (ss.getD ((0 : Nat) : Int).toNat ByteArray.empty).data.toList := ho
    rw [hm, r1, e1, e2]
    rw [if_neg, if_pos rfl]
    rintro ⟨hb, hc⟩
    have := ho.gen hb
    rcases hc with hc | hc
    · cases hc
    · omega
theorem settle_keep (ss : List ByteArray) (ws : List (Int × ByteArray)) (fs : List Int) (j : Nat) (h : ∀ x ∈ ws, x.1.toNat ≠ j) : ∀ k, k ≤ ws.length → (settleN ss ws fs k).getD j ByteArray.empty = ss.getD j ByteArray.empty
  | 0, _ => rfl
  | k + 1, hk => by
    have ih := settle_keep ss ws fs j h k (by omega)
    have hx := h (ws.getD k (0, ByteArray.empty)) (by rw [List.getD_eq_getElem?_getD, List.getElem?_eq_getElem (by omega)]; exact List.getElem_mem _)
    rw [settleN]
    unfold stepF
    split
    · rw [bgetD_ne _ _ _ _ hx, ih]
    · split
      · rw [bgetD_ne _ _ _ _ hx, ih]
      · exact ih
theorem FD.settle {ss : List ByteArray} {g : Int} {z : List Int} {sl : Int} (h : FD ss g z sl) (ws : List (Int × ByteArray)) (fs : List Int) (k : Nat) (hk : k ≤ ws.length) (hw : ∀ x ∈ ws, 2 ≤ x.1 ∧ x.1 ∉ z ∧ x.2.size ≤ 100) :
    FD (settleN ss ws fs k) g z sl ∧ loadL (settleN ss ws fs k) [] z = loadL ss [] z := by
  obtain ⟨q1, q2⟩ := h.small
  have hz := (rootB_all h.root).2.2.1
  have low : ∀ j, j < 2 → (settleN ss ws fs k).getD j ByteArray.empty = ss.getD j ByteArray.empty := fun j hj => settle_keep ss ws fs j (fun x hx => by have := (hw x hx).1; omega) k hk
  have hs := h.slot
  refine ⟨⟨okDisk_of (by rw [settleN_len, q1]) (settleN_small ss ws fs q2 (fun x hx => (hw x hx).2.2) k hk), hs, h.root, ?_, ?_⟩, ?_⟩
  · rw [low _ (by omega)]; exact h.main
  · rw [low _ (by omega)]; exact h.other
  · unfold loadL
    refine List.map_congr_left fun a ha => ?_
    rw [readS_nil, readS_nil]
    refine settle_keep ss ws fs _ (fun x hx e => ?_) k hk
    have h1 := (hw x hx).2.1
    have h2 := hz a ha
    have h3 := (hw x hx).1
    exact h1 (by rwa [show x.1 = a by omega])

structure PlanOK (ss : List ByteArray) (z free : List Int) (ps : List ByteArray) (k : Nat) (q : List Int × List (Int × ByteArray)) : Prop where
  len : q.1.length = 17
  few : q.2.length ≤ k
  rest : ∀ p, k ≤ p → q.1.getD p 0 = z.getD p 0
  at_ : ∀ i, i < q.2.length → (q.2.getD i (0, ByteArray.empty)).1 = free.getD i 0
  small : ∀ x ∈ q.2, x.2.size ≤ 100
  read : ∀ p, p < k → (settleN ss q.2 [1] q.2.length).getD (q.1.getD p 0).toNat ByteArray.empty = ps.getD p ByteArray.empty
  from_ : ∀ p, p < 17 → (q.1.getD p 0 ∈ z) ∨ ∃ i, i < q.2.length ∧ q.1.getD p 0 = free.getD i 0
  diff : ∀ p p', p < 17 → p' < 17 → p ≠ p' → q.1.getD p 0 ≠ q.1.getD p' 0
theorem settle_pre (ss : List ByteArray) (ws ms : List (Int × ByteArray)) (fs : List Int) : ∀ k, k ≤ ws.length → settleN ss (ws ++ ms) fs k = settleN ss ws fs k
  | 0, _ => rfl
  | k + 1, hk => by
    rw [settleN, settleN, settle_pre ss ws ms fs k (by omega)]
    rw [List.getD_eq_getElem?_getD, List.getD_eq_getElem?_getD, List.getElem?_append_left (by omega)]
theorem nodup_at {l : List Int} (h : l.Nodup) (i j : Nat) (hi : i < l.length) (hj : j < l.length) (hne : i ≠ j) : l.getD i 0 ≠ l.getD j 0 := by
  rw [List.getD_eq_getElem?_getD, List.getD_eq_getElem?_getD, List.getElem?_eq_getElem hi, List.getElem?_eq_getElem hj]
  simp only [Option.getD_some]
  have h' := List.pairwise_iff_getElem.1 h
  rcases Nat.lt_or_ge i j with q | q
  · exact h' i j hi hj q
  · exact fun e => h' j i hj hi (by omega) e.symm
theorem getD_mem {l : List Int} (i : Nat) (h : i < l.length) : l.getD i 0 ∈ l := by
  rw [List.getD_eq_getElem?_getD, List.getElem?_eq_getElem h]; exact List.getElem_mem _
theorem plan_good {ss : List ByteArray} {z free : List Int} {ps : List ByteArray} (h48 : ss.length = 48) (hl : z.length = 17) (hz : ∀ x ∈ z, 2 ≤ x ∧ x ≤ 47) (hn : z.Nodup) (hf : ∀ x ∈ free, 2 ≤ x ∧ x ≤ 47) (hfn : free.Nodup) (hfz : ∀ x ∈ free, x ∉ z) (h29 : 17 ≤ free.length) (hps : ∀ s ∈ ps, s.size ≤ 100) :
    ∀ k, k ≤ 17 → PlanOK ss z free ps k (planN z free (loadL ss [] z) ps k) := by
  intro k
  induction k with
  | zero =>
    intro _
    exact ⟨hl, Nat.le_refl _, fun _ _ => rfl, fun i hi => absurd hi (Nat.not_lt_zero _), fun x hx => (by cases hx), fun p hp => absurd hp (Nat.not_lt_zero _), fun p hp => .inl (getD_mem p (by rw [hl]; exact hp)), fun p p' hp hp' hne => nodup_at hn p p' (by rw [hl]; exact hp) (by rw [hl]; exact hp') hne⟩
  | succ k ih =>
    intro hk
    replace ih := ih (by omega)
    rw [planN]
    have eld : (loadL ss [] z).getD k ByteArray.empty = ss.getD (z.getD k 0).toNat ByteArray.empty := by
      unfold loadL
      rw [List.getD_eq_getElem?_getD, List.getElem?_map, List.getD_eq_getElem?_getD (l := z), List.getElem?_eq_getElem (by omega)]
      rfl
    generalize planN z free (loadL ss [] z) ps k = q at ih ⊢
    by_cases hd : (loadL ss [] z).getD k ByteArray.empty = ps.getD k ByteArray.empty
    · rw [if_pos hd]
      refine ⟨ih.len, Nat.le_succ_of_le ih.few, fun p hp => ih.rest p (by omega), ih.at_, ih.small, fun p hp => ?_, ih.from_, ih.diff⟩
      rcases Nat.lt_or_ge p k with h | h
      · exact ih.read p h
      · obtain rfl : p = k := by omega
        rw [ih.rest p (Nat.le_refl _), settle_keep ss q.2 [1] _ _ _ (Nat.le_refl _), ← eld, hd]
        intro x hx e
        obtain ⟨i, hi, rfl⟩ := List.getElem_of_mem hx
        have e1 := ih.at_ i hi
        rw [List.getD_eq_getElem?_getD, List.getElem?_eq_getElem hi, Option.getD_some] at e1
        have m1 := getD_mem (l := free) i (by have := ih.few; omega)
        have m2 := getD_mem (l := z) p (by omega)
        have n1 := hf _ m1
        have n2 := hz _ m2
        rw [e1] at e
        exact hfz _ m1 (by rw [show free.getD i 0 = z.getD p 0 by omega]; exact m2)
    · rw [if_neg hd]
      have few := ih.few
      have hL : (q.2 ++ [(free.getD q.2.length 0, ps.getD k ByteArray.empty)]).length = q.2.length + 1 := by simp
      have mq := getD_mem (l := free) q.2.length (by omega)
      have nq := hf _ mq
      have hread : settleN ss (q.2 ++ [(free.getD q.2.length 0, ps.getD k ByteArray.empty)]) [1] (q.2.length + 1) = (settleN ss q.2 [1] q.2.length).set (free.getD q.2.length 0).toNat (ps.getD k ByteArray.empty) := by
        rw [settle_one, settle_pre _ _ _ _ _ (Nat.le_refl _)]
        rw [show (q.2 ++ [(free.getD q.2.length 0, ps.getD k ByteArray.empty)]).getD q.2.length (0, ByteArray.empty) = (free.getD q.2.length 0, ps.getD k ByteArray.empty) by rw [List.getD_eq_getElem?_getD, List.getElem?_append_right (Nat.le_refl _), Nat.sub_self]; rfl]
      have away : ∀ p, p < 17 → q.1.getD p 0 ≠ free.getD q.2.length 0 := fun p hp e => by
        rcases ih.from_ p hp with h | ⟨i, hi, h⟩
        · exact hfz _ mq (by rw [← e]; exact h)
        · exact nodup_at hfn i q.2.length (by omega) (by omega) (by omega) (by rw [← h, e])
      have low : ∀ p, p < 17 → 2 ≤ q.1.getD p 0 := fun p hp => by
        rcases ih.from_ p hp with h | ⟨i, hi, h⟩
        · exact (hz _ h).1
        · rw [h]; exact (hf _ (getD_mem i (by omega))).1
      refine ⟨by rw [List.length_set]; exact ih.len, by rw [hL]; omega, fun p hp => ?_, fun i hi => ?_, fun x hx => ?_, fun p hp => ?_, fun p hp => ?_, fun p p' hp hp' hne => ?_⟩
      · simp only
        rw [igetD_ne _ _ _ _ (by omega), ih.rest p (by omega)]
      · simp only at hi ⊢
        rw [hL] at hi
        rcases Nat.lt_or_ge i q.2.length with h | h
        · rw [List.getD_eq_getElem?_getD, List.getElem?_append_left h, ← List.getD_eq_getElem?_getD]; exact ih.at_ i h
        · obtain rfl : i = q.2.length := by omega
          rw [List.getD_eq_getElem?_getD, List.getElem?_append_right (Nat.le_refl _), Nat.sub_self]; rfl
      · simp only at hx
        rcases List.mem_append.1 hx with h | h
        · exact ih.small x h
        · rw [List.mem_singleton.1 h]; exact getD_100 hps k
      · simp only
        rw [hL, hread]
        rcases Nat.lt_or_ge p k with h | h
        · rw [igetD_ne _ _ _ _ (by omega), bgetD_ne, ih.read p h]
          have := away p (by omega)
          have := low p (by omega)
          omega
        · obtain rfl : p = k := by omega
          rw [igetD_same _ _ _ (by rw [ih.len]; omega), bgetD_same _ _ _ (by rw [settleN_len, h48]; omega)]
      · simp only
        rw [hL]
        by_cases e : k = p
        · subst e
          exact .inr ⟨q.2.length, by omega, by rw [igetD_same _ _ _ (by rw [ih.len]; omega)]⟩
        · rw [igetD_ne _ _ _ _ e]
          rcases ih.from_ p hp with h | ⟨i, hi, h⟩
          · exact .inl h
          · exact .inr ⟨i, by omega, h⟩
      · simp only
        by_cases e : k = p
        · subst e
          rw [igetD_same _ _ _ (by rw [ih.len]; omega), igetD_ne _ _ _ _ hne]
          exact fun x => away p' hp' x.symm
        · by_cases e' : k = p'
          · subst e'
            rw [igetD_same _ _ _ (by rw [ih.len]; omega), igetD_ne _ _ _ _ e]
            exact away p hp
          · rw [igetD_ne _ _ _ _ e, igetD_ne _ _ _ _ e']
            exact ih.diff p p' hp hp' hne
theorem frN_not (zs : List Int) : ∀ j : Nat, ∀ x ∈ frN zs j, x ∉ zs
  | 0, x, h => by cases h
  | j + 1, x, h => by
    rw [frN] at h
    rcases List.mem_append.1 h with h | h
    · exact frN_not zs j x h
    · split at h
      · cases h
      · rename_i hn; rw [List.mem_singleton.1 h]; exact hn
theorem frN_nodup (zs : List Int) : ∀ j : Nat, (frN zs j).Nodup
  | 0 => List.nodup_nil
  | j + 1 => by
    rw [frN]
    split
    · rw [List.append_nil]; exact frN_nodup zs j
    · rw [List.nodup_append]
      refine ⟨frN_nodup zs j, by simp, fun a ha b hb e => ?_⟩
      have h1 := frN_in_range zs j a ha
      rw [List.mem_singleton.1 hb] at e
      omega
end Go.Proofs.Ytcchhbkbnbphhaa
