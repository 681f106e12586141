/- Contracts of Root.free and l02Free. -/
import Derived.Test.YtoogaaoknpfkoaaRootOk
import Derived.Test.YtoogaaoknpfkoaaApp
namespace Go.Proofs.Ytoogaaoknpfkoaa
open Go.RowKit

/-- The first j sectors behind the slots, but for those of a table. -/
def frN (zs : List Int) : Nat → List Int
  | 0 => []
  | j + 1 => frN zs j ++ (if ((j + 2 : Nat) : Int) ∈ zs then [] else [((j + 2 : Nat) : Int)])
/-- The sectors that a table leaves free. -/
def freeL (zs : List Int) : List Int := frN zs 46
theorem frN_len (zs : List Int) : ∀ j, (frN zs j).length ≤ j
  | 0 => Nat.le_refl _
  | j + 1 => by
    have := frN_len zs j
    rw [frN, List.length_append]
    split <;> simp <;> omega
theorem frN_in (zs : List Int) (j : Nat) (h : ((j + 2 : Nat) : Int) ∈ zs) : frN zs (j + 1) = frN zs j := by rw [frN, if_pos h, List.append_nil]
theorem frN_out (zs : List Int) (j : Nat) (h : ((j + 2 : Nat) : Int) ∉ zs) : frN zs (j + 1) = frN zs j ++ [((j + 2 : Nat) : Int)] := by rw [frN, if_neg h]
theorem SetI.since {w w' : World} {b B : Nat} {ks : List Int} (h : SetI w b ks) (hb : Below B w w') (hB : b < B) : SetI w' b ks := by
  obtain ⟨es, clock, h1, h2, h3⟩ := h
  exact ⟨es, clock, (hb.block b hB).trans h1, h2, h3⟩
theorem IntL.since {w w' : World} {B : Nat} {A : Option Addr} {zs : List Int} (h : IntL w A zs) (hb : Below B w w') (hB : w.heap.size ≤ B) : IntL w' A zs := h.below (hb.mono hB)
set_option maxRecDepth 100000 in
theorem zeroBool (w : World) : (zeroValue 4).run Try.prog w = .ok (.bool false) w := by kernel_rfl

set_option maxRecDepth 100000 in
set_option maxHeartbeats 2000000 in
theorem rootFree (g : Int) (A : Option Addr) (n c : Nat) (zs : List Int) (w : World) (hl : zs.length = n) (hn : n ≤ maxLen) (h : IntL w A zs) :
    Calls Try.prog 118 #[.agg #[.int .i64 g, .slice A n c]] w (GivesInts (freeL zs) w) := by
  have hb0 := alloc_below w (.cells #[.int .i64 g, .slice A n c] 57)
  have HU := Lib.hid (usedSectors A n c zs _ hl hn (h.below hb0))
  clear hl hn h
  go_enter Try.func118, Try.ntmps118
  go_wp2_with fail
  refine HU.out.mono ?_
  rintro e w1 ⟨bm, rfl, hbm, HS, hb1⟩
  have hb := bt hb0 hb1
  have hlt1 : bm < w1.heap.size := HS.out.lt
  have hW1 : w.heap.size ≤ w1.heap.size := hb.size
  clear hb0 hb1 HU hbm
  go_wp2
  go_loopw [5, 4] (fun i v wr => ∃ (j : Nat) (A' : Option Addr) (l c' : Nat), j ≤ 46 ∧ i = .int .i64 ((j + 2 : Nat) : Int) ∧ v = .slice A' l c' ∧ Hid ((frN zs j).length = l) ∧ l ≤ 46 ∧ Below w.heap.size w wr ∧ Hid (GroI wr w1.heap.size (.slice A' l c') (frN zs j)) ∧ Hid (SetI wr bm (keysOf zs)) ∧ w1.heap.size ≤ wr.heap.size) (fun i _ _ => 48 - (intOf i).toNat)
  case atStart => exact ⟨0, none, 0, 0, by omega, rfl, rfl, Lib.hid rfl, by omega, hb, Lib.hid (rowv_nil _ _ _ _), HS, Nat.le_refl _⟩
  case round =>
    clear hb HS
    obtain ⟨j, A', l, c', hj, rfl, rfl, HLl, hl46, hbw, HG, HS, hsz⟩ := hrel
    by_cases hlt : j < 46
    · have hi : ((j + 2 : Nat) : Int) < 48 := by omega
      have hlk := run_set_look (P := Try.prog) Try.underlying136 Try.underlying3 (zeroBool wr) HS.out ((j + 2 : Nat) : Int)
      by_cases hM : ((j + 2 : Nat) : Int) ∈ zs
      · have HF := Lib.hid (frN_in zs j hM)
        rw [show decide (((j + 2 : Nat) : Int) ∈ keysOf zs) = true from decide_eq_true ((keysOf_mem zs _).2 hM)] at hlk
        clear hM
        generalize hz : j + 2 = z at hlk hi
        have HZ := Lib.hid hz
        have hz1 : z ≤ 1000 := by omega
        clear hz
        go_wp2
        go_roundw
        case rel => exact ⟨j + 1, A', l, c', by omega, by have := HZ.out; congr 1; omega, rfl, by rw [HF.out]; exact HLl, hl46, hbw, by rw [HF.out]; exact HG, HS, hsz⟩
        case measure => simp [intOf]; omega
      · have HF := Lib.hid (frN_out zs j hM)
        have HLn := Lib.hid (frN_len zs (j + 1))
        rw [show decide (((j + 2 : Nat) : Int) ∈ keysOf zs) = false from decide_eq_false (fun q => hM ((keysOf_mem zs _).1 q))] at hlk
        clear hM
        generalize hz : j + 2 = z at hlk hi HF
        have HZ := Lib.hid hz
        have hz1 : z ≤ 1000 := by omega
        have HRk : Hid (wr.ownsRow w1.heap.size 3 1 (.slice A' l c') l ((frN zs j).map (Value.int .i64))) := Lib.hid (by have := HG.out; unfold GroI at this; rwa [HLl.out] at this)
        generalize frN zs j = fl at HRk HF HLl
        clear hz HG
        have HBa : Hid (Below wr.heap.size wr (wr.alloc (.cells #[.int .i64 (z : Int)] 3))) := Lib.hid (alloc_below _ _)
        have HOw := Lib.hid (rowv_below HRk.out HBa.out)
        have HNw : Hid (∀ i u, [Value.int .i64 (z : Int)][i]? = some u → (wr.alloc (.cells #[.int .i64 (z : Int)] 3)).cell? ⟨wr.heap.size, i, none⟩ = some u) := Lib.hid (fun i u hi => by
          match i, hi with
          | 0, hi => simp at hi; subst hi; exact (Box.new wr 3 #[.int .i64 (z : Int)]).cell 0 rfl)
        go_wp2_with (at_builtin; refine wpList_app_one rfl (.tmp 17) (.tmp 19) 36 3 rfl (.int .i64 0) 1 8 elemInt Try.underlying36 w1.heap.size (.slice A' l c') l (fl.map (Value.int .i64)) rfl ?hown wr.heap.size 1 rfl [.int .i64 (z : Int)] rfl ?hnews ?hone ?h63 ?hby ?hbase ?_)
        case hown => exact HOw.out
        case hnews => exact HNw.out
        case hone => intro u hu; simp at hu; subst hu; rfl
        case h63 => unfold maxLen; omega
        case hby => omega
        case hbase => simp; omega
        intro A2 c2 w2 hR2 hc2 hg2 hb2
        have HR2 := Lib.hid hR2
        have HS2 := Lib.hid ((HS.out.below HBa.out).since hb2 hlt1)
        have hbz : Below w.heap.size w w2 := (bt hbw HBa.out).trans (hb2.mono hW1)
        have hs2 : w1.heap.size ≤ w2.heap.size := Nat.le_trans (Nat.le_trans hsz HBa.out.size) hb2.size
        clear hR2 hb2 hg2
        go_wp2
        go_roundw
        case rel =>
          refine ⟨j + 1, A2, l + 1, c2, by omega, by have := HZ.out; congr 1; omega, rfl, Lib.hid (by rw [HF.out, List.length_append, HLl.out]; rfl), ?_, hbz, Lib.hid ?_, HS2, hs2⟩
          · have := HLn.out; rw [HF.out, List.length_append, HLl.out] at this; simp at this; omega
          · unfold GroI; rw [HF.out, List.length_append, HLl.out, List.map_append]; exact HR2.out
        case measure => simp [intOf]; omega
    · obtain rfl : j = 46 := by omega
      go_wp2
      refine bodyPost_ret (v := .slice A' l c') (by simp [results, Try.results118, go_sem]) rfl ?_
      exact ⟨_, _, _, rfl, HLl, Lib.hid (HG.out.own hW1), hbw⟩
end Go.Proofs.Ytoogaaoknpfkoaa
