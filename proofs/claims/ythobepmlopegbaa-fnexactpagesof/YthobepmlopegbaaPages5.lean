/- Contracts of both PagesOf. -/
import Derived.Test.YthobepmlopegbaaPages4
import Derived.Test.YthobepmlopegbaaGenC
import Derived.Laws.MakeOwn
namespace Go.Proofs.Ythobepmlopegbaa
open Go.RowKit

set_option maxRecDepth 100000 in
theorem mk_strs (W : World) : (Instr.makeSlice 28 (.int .i64 0) (.int .i64 17)).run Try.prog W = .ok (.slice (some ⟨W.heap.size, 0, none⟩) 0 17) (W.alloc (.cells (madeCells #[.string ByteArray.empty] 17) 9)) := by kernel_rfl
theorem page_take (zs : List Int) (k : Nat) (hk : k < 16) : ((List.range 16).map (pageB zs)).take (k + 1) = ((List.range 16).map (pageB zs)).take k ++ [pageB zs k] := by
  rw [List.take_succ_eq_append_getElem (by simp; omega)]
  simp
theorem pages_len (zs : List Int) (gs : List Bool) : (pagesL zs gs).length = 17 := by simp [pagesL]
theorem okRange {zs : List Int} {gs : List Bool} {st : Int} (h : okFlash zs gs st = true) : zs.length = 256 ∧ gs.length = 16 ∧ ∀ z ∈ zs, 0 ≤ z ∧ z ≤ 255 := by
  obtain ⟨h1, h2, _, h4⟩ := okFlash_len h
  exact ⟨h1, h2, h4⟩

set_option maxRecDepth 100000 in
set_option maxHeartbeats 2000000 in
theorem implPagesOf (A C : Option Addr) (c d : Nat) (st : Int) (zs : List Int) (gs : List Bool) (w : World) (hok : okFlash zs gs st = true) (hc : 256 ≤ c) (h : IntL w A zs) (g : BoolL w C gs) :
    Calls Try.prog 11 #[.agg #[.slice A 256 c, .slice C 16 d, .int .i64 st]] w fun e w' => ∃ A' c', e = .returned (.tuple #[.slice A' 17 c', .int .i64 0]) ∧ Hid (OwnS w' w.heap.size w'.heap.size A' (pagesL zs gs)) ∧ Below w.heap.size w w' := by
  obtain ⟨hl, hm, hz⟩ := okRange hok
  have hb0 := alloc_below w (.cells #[.slice A 256 c, .slice C 16 d, .int .i64 st] 26)
  have HV := Lib.hid (fun W (hb : Below w.heap.size w W) => flashValid A C 256 c 16 d st zs gs W hl hm (by unfold maxLen; omega) (by unfold maxLen; omega) (h.below hb))
  rw [hok] at HV
  have HP := Lib.hid (fun W (hb : Below w.heap.size w W) b hb' => blockPage A C c 16 d st zs b W hl hz hc hb' (h.below hb))
  have HQ := Lib.hid (fun W (hb : Below w.heap.size w W) => guardPage A C 256 c d st gs W hm (g.below hb))
  have X0 := Lib.hid (Box.new w 26 #[.slice A 256 c, .slice C 16 d, .int .i64 st])
  have hmk := mk_strs
  clear hok hc h g hl hm hz
  go_enter Try.func11, Try.ntmps11
  go_wp2_with fail
  refine (HV.out _ hb0).mono ?_
  rintro e w1 ⟨rfl, hb1⟩
  have hs1 : w.heap.size + 1 ≤ w1.heap.size := by have := X0.out.lt; have := hb1.size; omega
  have X1 := Lib.hid (X0.out.step hb1)
  have hb2 := bt hb0 hb1
  have G1 : Hid (GroS (w1.alloc (.cells (madeCells #[.string ByteArray.empty] 17) 9)) (w.heap.size + 1) (.slice (some ⟨w1.heap.size, 0, none⟩) 0 17) []) := Lib.hid (World.ownsRow_made w1 _ 17 hs1 (by unfold maxLen; omega) (size_madeCells _ _))
  have hb3 : Below w.heap.size w (w1.alloc (.cells (madeCells #[.string ByteArray.empty] 17) 9)) := bt hb2 (alloc_below _ _)
  have X2 := Lib.hid (X1.out.alloc (.cells (madeCells #[.string ByteArray.empty] 17) 9))
  have hs2 : w.heap.size + 1 ≤ (w1.alloc (.cells (madeCells #[.string ByteArray.empty] 17) 9)).heap.size := by simp; omega
  clear X0 X1 hb0 hb1 hb2
  go_wp2
  clear hmk
  go_loopw [4, 10] (fun v i wr => ∃ (k : Nat) (A' : Option Addr) (c' : Nat), k ≤ 16 ∧ v = .slice A' k c' ∧ i = .int .i64 k ∧ Below w.heap.size w wr ∧ Hid (GroS wr (w.heap.size + 1) (.slice A' k c') (((List.range 16).map (pageB zs)).take k)) ∧ Hid (Box wr w.heap.size 26 #[.slice A 256 c, .slice C 16 d, .int .i64 st]) ∧ w.heap.size + 1 ≤ wr.heap.size) (fun _ i _ => 16 - (intOf i).toNat)
  case atStart => exact ⟨0, _, _, by omega, rfl, rfl, hb3, G1, X2, hs2⟩
  case round =>
    clear G1 X2 hs2 hb3 hs1
    obtain ⟨k, A', c', hk, rfl, rfl, hbw, G, X, hsz⟩ := hrel
    have f0 := X.out.cell 0 rfl
    have f1 := X.out.cell 1 rfl
    have f2 := X.out.cell 2 rfl
    by_cases hlt : k < 16
    · have hi : (k : Int) < 16 := by omega
      have HSt := Lib.hid (page_take zs k hlt)
      have HLk : Hid ((((List.range 16).map (pageB zs)).take k).length = k) := Lib.hid (by simp; omega)
      have HPk := Lib.hid (HP.out wr hbw k hlt)
      generalize pageB zs k = s at HSt HPk
      generalize hfl : ((List.range 16).map (pageB zs)).take k = fl at G HSt HLk
      clear hfl
      have HRk : Hid (wr.ownsRow (w.heap.size + 1) 9 1 (.slice A' k c') k (fl.map Value.string)) := Lib.hid (by have := G.out; unfold GroS at this; rw [HLk.out] at this; exact this)
      go_wp2_with fail
      refine HPk.out.mono ?_
      rintro e w2 ⟨rfl, hb2⟩
      have HBa : Hid (Below wr.heap.size wr (w2.alloc (.cells #[.string s] 9))) := Lib.hid (bt hb2 (alloc_below _ _))
      have HOw := Lib.hid (rowv_below HRk.out HBa.out)
      have HNw : Hid (∀ i u, [Value.string s][i]? = some u → (w2.alloc (.cells #[.string s] 9)).cell? ⟨w2.heap.size, i, none⟩ = some u) := Lib.hid (fun i u hi => by
        match i, hi with
        | 0, hi => simp at hi; subst hi; exact (Box.new w2 9 #[.string s]).cell 0 rfl)
      go_wp2_with (at_builtin; refine wpList_app_one rfl (.tmp 13) (.tmp 17) 28 9 rfl (.string ByteArray.empty) 1 16 elemStr Try.underlying28 (w.heap.size + 1) (.slice A' k c') k (fl.map Value.string) rfl ?hown w2.heap.size 1 rfl [.string s] rfl ?hnews ?hone ?h63 ?hby ?hbase ?_)
      case hown => exact HOw.out
      case hnews => exact HNw.out
      case hone => intro u hu; simp at hu; subst hu; rfl
      case h63 => unfold maxLen; omega
      case hby => omega
      case hbase => exact Nat.le_trans hsz HBa.out.size
      intro A2 c2 w3 hR3 hc3 hg3 hb3
      have X3 := Lib.hid ((X.out.step HBa.out).below hb3 (by omega))
      have hbz : Below w.heap.size w w3 := (bt hbw HBa.out).trans (hb3.mono (by omega))
      have hsz3 : w.heap.size + 1 ≤ w3.heap.size := Nat.le_trans (Nat.le_trans hsz HBa.out.size) hb3.size
      have HR3 := Lib.hid hR3
      clear hR3 hc3 hg3 hb3 hb2 HOw HNw HBa HRk G X f0 f1 f2 hbw hsz
      go_wp2
      go_roundw
      case rel => first | exact ⟨k + 1, A2, c2, by omega, rfl, by go_num, hbz, Lib.hid (by unfold GroS; rw [HSt.out, List.length_append, HLk.out, List.map_append]; exact HR3.out), X3, hsz3⟩ | ((repeat apply Exists.intro); exact ⟨⟨k + 1, A2, c2, by omega, rfl, by go_num, hbz, Lib.hid (by unfold GroS; rw [HSt.out, List.length_append, HLk.out, List.map_append]; exact HR3.out), X3, hsz3⟩, rfl⟩)
      case measure => simp [intOf]; omega
    · obtain rfl : k = 16 := by omega
      have HQk := Lib.hid (HQ.out wr hbw)
      have HSt : Hid (pagesL zs gs = ((List.range 16).map (pageB zs)).take 16 ++ [guardB gs]) := Lib.hid (by unfold pagesL; rw [List.take_of_length_le (by simp)])
      have HLk : Hid ((((List.range 16).map (pageB zs)).take 16).length = 16) := Lib.hid (by simp)
      generalize guardB gs = s at HSt HQk
      generalize hfl : ((List.range 16).map (pageB zs)).take 16 = fl at G HSt HLk
      clear hfl
      have HRk : Hid (wr.ownsRow (w.heap.size + 1) 9 1 (.slice A' 16 c') 16 (fl.map Value.string)) := Lib.hid (by have := G.out; unfold GroS at this; rw [HLk.out] at this; exact this)
      go_wp2_with fail
      refine HQk.out.mono ?_
      rintro e w2 ⟨rfl, hb2⟩
      have HBa : Hid (Below wr.heap.size wr (w2.alloc (.cells #[.string s] 9))) := Lib.hid (bt hb2 (alloc_below _ _))
      have HOw := Lib.hid (rowv_below HRk.out HBa.out)
      have HNw : Hid (∀ i u, [Value.string s][i]? = some u → (w2.alloc (.cells #[.string s] 9)).cell? ⟨w2.heap.size, i, none⟩ = some u) := Lib.hid (fun i u hi => by
        match i, hi with
        | 0, hi => simp at hi; subst hi; exact (Box.new w2 9 #[.string s]).cell 0 rfl)
      go_wp2_with (at_builtin; refine wpList_app_one rfl (.tmp 20) (.tmp 23) 28 9 rfl (.string ByteArray.empty) 1 16 elemStr Try.underlying28 (w.heap.size + 1) (.slice A' 16 c') 16 (fl.map Value.string) rfl ?hown w2.heap.size 1 rfl [.string s] rfl ?hnews ?hone ?h63 ?hby ?hbase ?_)
      case hown => exact HOw.out
      case hnews => exact HNw.out
      case hone => intro u hu; simp at hu; subst hu; rfl
      case h63 => unfold maxLen; omega
      case hby => omega
      case hbase => exact Nat.le_trans hsz HBa.out.size
      intro A2 c2 w3 hR3 hc3 hg3 hb3
      have hbz : Below w.heap.size w w3 := (bt hbw HBa.out).trans (hb3.mono (by omega))
      have HG3 : Hid (GroS w3 (w.heap.size + 1) (.slice A2 17 c2) (pagesL zs gs)) := Lib.hid (by unfold GroS; rw [HSt.out, List.length_append, HLk.out, List.map_append]; exact hR3)
      clear hR3 hc3 hg3 hb3 hb2 HOw HNw HBa HRk G X f0 f1 f2 hbw hsz
      go_wp2
      refine bodyPost_ret (v := .tuple #[.slice A2 17 c2, .int .i64 0]) (by simp [results, Try.results11, go_sem]) rfl ?_
      exact ⟨A2, c2, rfl, Lib.hid (HG3.out.own (by omega)), hbz⟩

set_option maxRecDepth 100000 in
theorem implPagesOfBad (A C : Option Addr) (n c m d : Nat) (st : Int) (zs : List Int) (gs : List Bool) (w : World) (hl : zs.length = n) (hm : gs.length = m) (hn : n ≤ maxLen) (hmm : m ≤ maxLen) (hok : okFlash zs gs st = false) (h : IntL w A zs) :
    Calls Try.prog 11 #[.agg #[.slice A n c, .slice C m d, .int .i64 st]] w fun e w' => e = .returned (.tuple #[.slice none 0 0, .int .i64 1]) ∧ Below w.heap.size w w' := by
  have hb0 := alloc_below w (.cells #[.slice A n c, .slice C m d, .int .i64 st] 26)
  have HV := Lib.hid (fun W (hb : Below w.heap.size w W) => flashValid A C n c m d st zs gs W hl hm hn hmm (h.below hb))
  rw [hok] at HV
  clear hok h hl hm hn hmm
  go_enter Try.func11, Try.ntmps11
  go_wp2_with fail
  refine (HV.out _ hb0).mono ?_
  rintro e w1 ⟨rfl, hb1⟩
  go_wp2
  refine bodyPost_ret (v := .tuple #[.slice none 0 0, .int .i64 1]) (by simp [results, Try.results11, go_sem]) rfl ?_
  exact ⟨rfl, bt hb0 hb1⟩
end Go.Proofs.Ythobepmlopegbaa
