/- The contract of the model's l04Pages and PagesOf. -/
import Derived.Test.YthobepmlopegbaaPages5
namespace Go.Proofs.Ythobepmlopegbaa
open Go.RowKit

set_option maxRecDepth 100000 in
theorem l01BitB (b : Bool) (w : World) : Calls Try.prog 73 #[.bool b] w fun e w' => e = .returned (.int .i64 (if b then 1 else 0)) ∧ w = w' := by
  cases b
  · go_enter Try.func73, Try.ntmps73
    go_wp2
    go_ret
    exact ⟨rfl, rfl⟩
  · go_enter Try.func73, Try.ntmps73
    go_wp2
    go_ret
    exact ⟨rfl, rfl⟩
theorem guard_next (gs : List Bool) (k : Nat) (hk : k < gs.length) : bs ((gs.take k).map gch) ++ (⟨#[gch (gs.getD k false)]⟩ : ByteArray) = bs ((gs.take (k + 1)).map gch) := by
  have h : (⟨#[gch (gs.getD k false)]⟩ : ByteArray) = bs [gch (gs.getD k false)] := rfl
  rw [h, bs_app, List.take_succ_eq_append_getElem hk, List.map_append]
  simp [List.getD_eq_getElem?_getD, hk]

set_option maxRecDepth 100000 in
set_option maxHeartbeats 4000000 in
theorem l04Pages (A C : Option Addr) (c d : Nat) (st : Int) (zs : List Int) (gs : List Bool) (w : World) (hok : okFlash zs gs st = true) (h : IntL w A zs) (g : BoolL w C gs) :
    Calls Try.prog 41 #[.agg #[.slice A 256 c, .slice C 16 d, .int .i64 st]] w fun e w' => ∃ A' c', e = .returned (.slice A' 17 c') ∧ Hid (OwnS w' w.heap.size w'.heap.size A' (pagesL zs gs)) ∧ Below w.heap.size w w' := by
  obtain ⟨hl, hm, hz⟩ := okRange hok
  obtain ⟨B, off, rfl, _⟩ := h 0 (by omega)
  have HA : Hid (∀ W, Below w.heap.size w W → ∀ k, k < 256 → ∃ z : Nat, z ≤ 255 ∧ zs.getD k 0 = z ∧ W.cell? ⟨B, off + k, none⟩ = some (.int .i64 (z : Int))) := Lib.hid (by
    intro W hbW k hk
    obtain ⟨B', off', e, hc'⟩ := (h.below hbW) k (by omega)
    injection e with e; injection e with e1 e2
    have hm : zs.getD k 0 ∈ zs := by
      rw [List.getD_eq_getElem?_getD, List.getElem?_eq_getElem (by omega), Option.getD_some]; exact List.getElem_mem _
    have := hz _ hm
    refine ⟨(zs.getD k 0).toNat, by omega, by omega, ?_⟩
    rw [show (((zs.getD k 0).toNat : Nat) : Int) = zs.getD k 0 by omega, e1, e2]
    exact hc')
  have HL := Lib.hid hl
  have HM := Lib.hid hm
  have HG := Lib.hid g
  obtain ⟨w1, hw1⟩ : ∃ w1, w1 = (w.alloc (.cells #[.slice (some ⟨B, off, none⟩) 256 c, .slice C 16 d, .int .i64 st] 26)).alloc (.cells #[] 9) := ⟨_, rfl⟩
  have hb1 : Below w.heap.size w w1 := by rw [hw1]; exact bt (alloc_below _ _) (alloc_below _ _)
  have X1 : Hid (Box w1 w.heap.size 26 #[.slice (some ⟨B, off, none⟩) 256 c, .slice C 16 d, .int .i64 st]) := Lib.hid (by rw [hw1]; exact (Box.new _ _ _).alloc _)
  have G1 : Hid (GroS w1 (w.heap.size + 1) (.slice (some ⟨w.heap.size + 1, 0, none⟩) 0 0) []) := Lib.hid (by
    unfold GroS
    refine rowv_empty (Nat.le_refl _) ?_
    rw [hw1]; simpa using Box.new (w.alloc (.cells #[.slice (some ⟨B, off, none⟩) 256 c, .slice C 16 d, .int .i64 st] 26)) 9 #[])
  have hs1 : w.heap.size + 1 ≤ w1.heap.size := by rw [hw1]; simp
  have HW1 := Lib.hid hw1
  clear hok h g hl hm hz hw1
  go_enter Try.func41, Try.ntmps41
  go_wp2
  rw [← HW1.out]
  clear HW1
  go_loopw [3, 4, 5] (fun v t i wr => ∃ (k : Nat) (A' : Option Addr) (c' : Nat), k ≤ 16 ∧ v = .slice A' k c' ∧ t = .string (bs ((gs.take k).map gch)) ∧ i = .int .i64 k ∧ Below w.heap.size w wr ∧ Hid (GroS wr (w.heap.size + 1) (.slice A' k c') (((List.range 16).map (pageB zs)).take k)) ∧ Hid (Box wr w.heap.size 26 #[.slice (some ⟨B, off, none⟩) 256 c, .slice C 16 d, .int .i64 st]) ∧ w.heap.size + 1 ≤ wr.heap.size) (fun _ _ i _ => 16 - (intOf i).toNat)
  case atStart => exact ⟨0, _, _, by omega, rfl, rfl, rfl, hb1, G1, X1, hs1⟩
  case round =>
    clear G1 X1 hs1 hb1
    obtain ⟨k, A', c', hk, rfl, rfl, rfl, hbw, G, X, hsz⟩ := hrel
    by_cases hlt : k < 16
    · have hi : (k : Int) < 16 := by omega
      have HGn := Lib.hid (guard_next gs k (by rw [HM.out]; exact hlt))
      have HGs : Hid ((bs ((gs.take k).map gch)).size ≤ 16) := Lib.hid (by rw [bs_size]; simp; omega)
      generalize bs ((gs.take k).map gch) = lt at HGn HGs
      go_wp2
      have hi2 := hi
      go_loopw [6, 7] (fun t j wr => ∃ (m : Nat), m ≤ 16 ∧ t = .string (bs (hexCat ((blockL zs k).take m))) ∧ j = .int .i64 m ∧ Below w.heap.size w wr ∧ Hid (GroS wr (w.heap.size + 1) (.slice A' k c') (((List.range 16).map (pageB zs)).take k)) ∧ Hid (Box wr w.heap.size 26 #[.slice (some ⟨B, off, none⟩) 256 c, .slice C 16 d, .int .i64 st]) ∧ w.heap.size + 1 ≤ wr.heap.size) (fun _ i _ => 16 - (intOf i).toNat)
      case atStart => exact ⟨0, by omega, rfl, rfl, hbw, G, X, hsz⟩
      case round =>
        clear G X hsz hbw
        obtain ⟨m, hmm, rfl, rfl, hbw, G, X, hsz⟩ := hrel
        have f0 := X.out.cell 0 rfl
        by_cases hmt : m < 16
        · have hj : (m : Int) < 16 := by omega
          obtain ⟨z, hz, hg, hc'⟩ := HA.out _ hbw (16 * k + m) (by omega)
          have HN : Hid (bs (hexCat ((blockL zs k).take m)) ++ hex2 z = bs (hexCat ((blockL zs k).take (m + 1)))) := Lib.hid (by
            rw [hex_next, ← hg, show 16 * k + m = k * 16 + m by omega, block_next zs k m HL.out hlt hmt])
          have hc2 : wr.cell? ⟨B, off + (16 * k + m), none⟩ = some (.int .i64 (z : Int)) := hc'
          have hnl : ¬ 9223372036854775807 < (bs (hexCat ((blockL zs k).take m))).size + (hex2 z).size := by
            rw [bs_size, hexCat_len, hex2_size]; simp; omega
          have HX := Lib.hid (fun W => l04Hex z hz W)
          generalize bs (hexCat ((blockL zs k).take m)) = t at HN hnl
          generalize hex2 z = u at HN hnl HX
          have e1 : IntKind.i64.wrap (16 * (k : Int)) = 16 * (k : Int) := IntWalk.i64_in _ (by omega)
          have e2 : IntKind.i64.wrap (16 * (k : Int) + (m : Int)) = 16 * (k : Int) + (m : Int) := IntWalk.i64_in _ (by omega)
          have e3 : (16 * (k : Int) + (m : Int)).toNat = 16 * k + m := by omega
          have e4 : 0 ≤ 16 * (k : Int) + (m : Int) := by omega
          have e5 : 16 * (k : Int) + (m : Int) < 256 := by omega
          clear hg hc'
          go_wp2_with fail
          refine (HX.out _).mono ?_
          rintro e w2 ⟨rfl, hb2⟩
          have hb3 := bt hbw hb2
          have G2 : Hid (GroS w2 (w.heap.size + 1) (.slice A' k c') (((List.range 16).map (pageB zs)).take k)) := Lib.hid (rowv_below G.out hb2)
          have X2 := Lib.hid (X.out.step hb2)
          have hsz2 := Nat.le_trans hsz hb2.size
          clear G X hsz f0 hc2 hbw
          go_wp2
          go_roundw
          case rel => first | exact ⟨m + 1, by omega, by rw [HN.out], by go_num, hb3, G2, X2, hsz2⟩ | ((repeat apply Exists.intro); exact ⟨⟨m + 1, by omega, by rw [HN.out], by go_num, hb3, G2, X2, hsz2⟩, rfl⟩)
          case measure => simp [intOf]; omega
        · obtain rfl : m = 16 := by omega
          have HF : Hid (bs (hexCat ((blockL zs k).take 16)) = pageB zs k) := Lib.hid (by
            unfold pageB; rw [List.take_of_length_le (by unfold blockL; simp; omega)])
          rw [HF.out]
          have HSt := Lib.hid (page_take zs k hlt)
          have HLk : Hid ((((List.range 16).map (pageB zs)).take k).length = k) := Lib.hid (by simp; omega)
          generalize pageB zs k = s at HSt
          generalize hfl : ((List.range 16).map (pageB zs)).take k = fl at G HSt HLk
          clear hfl HF
          have HRk : Hid (wr.ownsRow (w.heap.size + 1) 9 1 (.slice A' k c') k (fl.map Value.string)) := Lib.hid (by have := G.out; unfold GroS at this; rw [HLk.out] at this; exact this)
          have HBa : Hid (Below wr.heap.size wr (wr.alloc (.cells #[.string s] 9))) := Lib.hid (alloc_below _ _)
          have HOw := Lib.hid (rowv_below HRk.out HBa.out)
          have HNw : Hid (∀ i u, [Value.string s][i]? = some u → (wr.alloc (.cells #[.string s] 9)).cell? ⟨wr.heap.size, i, none⟩ = some u) := Lib.hid (fun i u hi => by
            match i, hi with
            | 0, hi => simp at hi; subst hi; exact (Box.new wr 9 #[.string s]).cell 0 rfl)
          go_wp2_with (at_builtin; refine wpList_app_one rfl (.tmp 28) (.tmp 30) 28 9 rfl (.string ByteArray.empty) 1 16 elemStr Try.underlying28 (w.heap.size + 1) (.slice A' k c') k (fl.map Value.string) rfl ?hown wr.heap.size 1 rfl [.string s] rfl ?hnews ?hone ?h63 ?hby ?hbase ?_)
          case hown => exact HOw.out
          case hnews => exact HNw.out
          case hone => intro u hu; simp at hu; subst hu; rfl
          case h63 => unfold maxLen; omega
          case hby => omega
          case hbase => exact Nat.le_trans hsz HBa.out.size
          intro A2 c2 w3 hR3 hc3 hg3 hb3
          have X3 := Lib.hid ((X.out.step HBa.out).below hb3 (by omega))
          have hbz : Below w.heap.size w w3 := (bt hbw HBa.out).trans (hb3.mono (by omega))
          have hsz3 : w.heap.size + 1 ≤ w3.heap.size := Nat.le_trans (Nat.le_trans hsz HBa.out.size) hb3.size
          have HR3 := Lib.hid hR3
          clear hR3 hc3 hg3 hb3 HOw HNw HBa HRk G X f0 hbw hsz
          obtain ⟨gb, goff, rfl, hgc⟩ := (HG.out.below hbz) k (by rw [HM.out]; exact hlt)
          obtain ⟨w4, hw4⟩ : ∃ w4, w4 = w3.alloc (.cells #[.string ⟨#[48]⟩, .string ⟨#[49]⟩] 9) := ⟨_, rfl⟩
          have hb4 : Below w3.heap.size w3 w4 := by rw [hw4]; exact alloc_below _ _
          have x1 : w4.cell? ⟨w.heap.size, 1, none⟩ = some (.slice (some ⟨gb, goff, none⟩) 16 d) := (X3.out.step hb4).cell 1 rfl
          have y1 : w4.cell? ⟨gb, goff + k, none⟩ = some (.bool (gs.getD k false)) := (hb4.cell (cell_lt hgc)).trans hgc
          have z0 : w4.cell? ⟨w3.heap.size, 0, none⟩ = some (.string ⟨#[48]⟩) := by rw [hw4]; exact (Box.new _ _ _).cell 0 rfl
          have z1 : w4.cell? ⟨w3.heap.size, 1, none⟩ = some (.string ⟨#[49]⟩) := by rw [hw4]; exact (Box.new _ _ _).cell 1 rfl
          have HW4 := Lib.hid hw4
          have hnl : ¬ 9223372036854775807 < lt.size + (1 : Nat) := by have := HGs.out; omega
          have HX4 := Lib.hid (X3.out.step hb4)
          have HR4 := Lib.hid (rowv_below HR3.out hb4)
          have hbq := bt hbz hb4
          have hszq := Nat.le_trans hsz3 hb4.size
          rw [hw4] at x1 y1
          clear X3 HR3 hgc hbz hsz3 hb4 hw4
          generalize gs.getD k false = x at y1 HGn
          cases x
          all_goals go_wp2_with fail
          all_goals rw [← HW4.out]
          all_goals (refine (l01BitB _ _).mono ?_)
          all_goals (rintro e w5 ⟨rfl, rfl⟩)
          all_goals go_wp2
          all_goals (refine ⟨⟨k + 1, A2, c2, by omega, rfl, by rw [← HGn.out]; rfl, by go_num, hbq, Lib.hid (by unfold GroS; rw [HSt.out, List.length_append, HLk.out, List.map_append]; exact HR4.out), HX4, hszq⟩, by simp [intOf]; omega⟩)
    · obtain rfl : k = 16 := by omega
      have HSt : Hid (pagesL zs gs = ((List.range 16).map (pageB zs)).take 16 ++ [bs ((gs.take 16).map gch)]) := Lib.hid (by unfold pagesL guardB; rw [List.take_of_length_le (by simp), List.take_of_length_le (by rw [HM.out]; omega)])
      have HLk : Hid ((((List.range 16).map (pageB zs)).take 16).length = 16) := Lib.hid (by simp)
      generalize bs ((gs.take 16).map gch) = s at HSt
      generalize hfl : ((List.range 16).map (pageB zs)).take 16 = fl at G HSt HLk
      clear hfl
      have HRk : Hid (wr.ownsRow (w.heap.size + 1) 9 1 (.slice A' 16 c') 16 (fl.map Value.string)) := Lib.hid (by have := G.out; unfold GroS at this; rw [HLk.out] at this; exact this)
      have HBa : Hid (Below wr.heap.size wr (wr.alloc (.cells #[.string s] 9))) := Lib.hid (alloc_below _ _)
      have HOw := Lib.hid (rowv_below HRk.out HBa.out)
      have HNw : Hid (∀ i u, [Value.string s][i]? = some u → (wr.alloc (.cells #[.string s] 9)).cell? ⟨wr.heap.size, i, none⟩ = some u) := Lib.hid (fun i u hi => by
        match i, hi with
        | 0, hi => simp at hi; subst hi; exact (Box.new wr 9 #[.string s]).cell 0 rfl)
      go_wp2_with (at_builtin; refine wpList_app_one rfl (.tmp 43) (.tmp 45) 28 9 rfl (.string ByteArray.empty) 1 16 elemStr Try.underlying28 (w.heap.size + 1) (.slice A' 16 c') 16 (fl.map Value.string) rfl ?hown wr.heap.size 1 rfl [.string s] rfl ?hnews ?hone ?h63 ?hby ?hbase ?_)
      case hown => exact HOw.out
      case hnews => exact HNw.out
      case hone => intro u hu; simp at hu; subst hu; rfl
      case h63 => unfold maxLen; omega
      case hby => omega
      case hbase => exact Nat.le_trans hsz HBa.out.size
      intro A2 c2 w3 hR3 hc3 hg3 hb3
      have hbz : Below w.heap.size w w3 := (bt hbw HBa.out).trans (hb3.mono (by omega))
      have HG3 : Hid (GroS w3 (w.heap.size + 1) (.slice A2 17 c2) (pagesL zs gs)) := Lib.hid (by unfold GroS; rw [HSt.out, List.length_append, HLk.out, List.map_append]; exact hR3)
      clear hR3 hc3 hg3 hb3 HOw HNw HBa HRk G X hbw hsz
      go_wp2
      go_ret
      exact ⟨A2, c2, rfl, Lib.hid (HG3.out.own (by omega)), hbz⟩

set_option maxRecDepth 100000 in
theorem specPagesOf (A C : Option Addr) (c d : Nat) (st : Int) (zs : List Int) (gs : List Bool) (w : World) (hok : okFlash zs gs st = true) (h : IntL w A zs) (g : BoolL w C gs) :
    Calls Try.prog 12 #[.agg #[.slice A 256 c, .slice C 16 d, .int .i64 st]] w fun e w' => ∃ A' c', e = .returned (.tuple #[.slice A' 17 c', .int .i64 0]) ∧ Hid (OwnS w' w.heap.size w'.heap.size A' (pagesL zs gs)) ∧ Below w.heap.size w w' := by
  obtain ⟨hl, hm, _⟩ := okRange hok
  have hb0 := alloc_below w (.cells #[.slice A 256 c, .slice C 16 d, .int .i64 st] 26)
  have HV := Lib.hid (fun W (hb : Below w.heap.size w W) => specFlashOK A C 256 c 16 d st zs gs W hl hm (by unfold maxLen; omega) (by unfold maxLen; omega) (h.below hb))
  rw [hok] at HV
  have HP := Lib.hid (fun W (hb : Below w.heap.size w W) => l04Pages A C c d st zs gs W hok (h.below hb) (g.below hb))
  have X0 := Lib.hid (Box.new w 26 #[.slice A 256 c, .slice C 16 d, .int .i64 st])
  generalize pagesL zs gs = rs at HP
  clear hok h g hl hm
  go_enter Try.func12, Try.ntmps12
  go_wp2_with fail
  refine (HV.out _ hb0).mono ?_
  rintro e w1 ⟨rfl, hb1⟩
  have X1 := Lib.hid (X0.out.step hb1)
  have hb2 := bt hb0 hb1
  have f0 := X1.out.cell 0 rfl
  have f1 := X1.out.cell 1 rfl
  have f2 := X1.out.cell 2 rfl
  go_wp2_with fail
  refine (HP.out _ hb2).mono ?_
  rintro e w3 ⟨A', c', rfl, O3, hb3⟩
  go_wp2
  refine bodyPost_ret (v := .tuple #[.slice A' 17 c', .int .i64 0]) (by simp [results, Try.results12, go_sem]) rfl ?_
  exact ⟨A', c', rfl, Lib.hid (O3.out.wide hb2.size (Nat.le_refl _)), bt hb2 hb3⟩
set_option maxRecDepth 100000 in
theorem specPagesOfBad (A C : Option Addr) (n c m d : Nat) (st : Int) (zs : List Int) (gs : List Bool) (w : World) (hl : zs.length = n) (hm : gs.length = m) (hn : n ≤ maxLen) (hmm : m ≤ maxLen) (hok : okFlash zs gs st = false) (h : IntL w A zs) :
    Calls Try.prog 12 #[.agg #[.slice A n c, .slice C m d, .int .i64 st]] w fun e w' => ∃ A', e = .returned (.tuple #[.slice A' 0 0, .int .i64 1]) ∧ Below w.heap.size w w' := by
  have hb0 := alloc_below w (.cells #[.slice A n c, .slice C m d, .int .i64 st] 26)
  have HV := Lib.hid (fun W (hb : Below w.heap.size w W) => specFlashOK A C n c m d st zs gs W hl hm hn hmm (h.below hb))
  rw [hok] at HV
  clear hok h hl hm hn hmm
  go_enter Try.func12, Try.ntmps12
  go_wp2_with fail
  refine (HV.out _ hb0).mono ?_
  rintro e w1 ⟨rfl, hb1⟩
  go_wp2
  refine bodyPost_ret (v := .tuple #[.slice (some ⟨w1.heap.size, 0, none⟩) 0 0, .int .i64 1]) (by simp [results, Try.results12, go_sem]) rfl ?_
  exact ⟨_, rfl, bt (bt hb0 hb1) (alloc_below _ _)⟩

/-- What PagesOf answers. -/
def pagesOf (zs : List Int) (gs : List Bool) (st : Int) : List ByteArray × Int := if okFlash zs gs st then (pagesL zs gs, 0) else ([], 1)
theorem pagesOf_len (zs : List Int) (gs : List Bool) (st : Int) : lenA [Lf.S (pagesOf zs gs st).1] ≤ 4294967296 := by
  unfold pagesOf
  split
  · simp [lenA, Lf.len, pages_len]
  · simp [lenA, Lf.len]
theorem ownS1 {w : World} {lo hi : Nat} {A : Option Addr} {n c : Nat} {ss : List ByteArray} (hl : ss.length = n) (h : OwnS w lo hi A ss) : OwnA w lo hi [.slice A n c] [.S ss] := OwnA.one ⟨A, c, by rw [hl], h⟩
section
variable (A0 A1 : Option Addr) (c0 c1 : Nat) (d0 : List Int) (d1 : List Bool) (d2 : Int) (w : World)
set_option maxRecDepth 100000 in
theorem implPagesOfA (h : RepA w [.slice A0 d0.length c0, .slice A1 d1.length c1] [.I d0, .B d1]) (cp : CapA [.slice A0 d0.length c0, .slice A1 d1.length c1]) (z : szA [.I d0, .B d1] ≤ 1048576) :
    Calls Try.prog 11 #[.agg #[.slice A0 d0.length c0, .slice A1 d1.length c1, .int .i64 d2]] w fun e w' => ∃ rA rc, e = .returned (.tuple #[.slice rA (pagesOf d0 d1 d2).1.length rc, .int .i64 (pagesOf d0 d1 d2).2]) ∧ Hid (OwnA w' w.heap.size w'.heap.size [.slice rA (pagesOf d0 d1 d2).1.length rc] [.S (pagesOf d0 d1 d2).1]) ∧ Below w.heap.size w w' := by
  cases hok : okFlash d0 d1 d2 with
  | true =>
    obtain ⟨hl, hm, _⟩ := okRange hok
    have hc : 256 ≤ c0 := by have := cp _ (List.mem_cons_self) A0 d0.length c0 rfl; omega
    have e : pagesOf d0 d1 d2 = (pagesL d0 d1, 0) := by unfold pagesOf; rw [if_pos hok]
    have h1 := repI h.1
    have h2 := repB h.2.1
    rw [e, hl, hm]
    refine (implPagesOf A0 A1 c0 c1 d2 d0 d1 w hok hc h1 h2).mono ?_
    rintro e w' ⟨A', c', rfl, O, hb⟩
    exact ⟨A', c', by rw [pages_len], Lib.hid (ownS1 rfl O.out), hb⟩
  | false =>
    have e : pagesOf d0 d1 d2 = ([], 1) := by unfold pagesOf; rw [if_neg (by rw [hok]; decide)]
    rw [e]
    simp only [szA, Lf.sz] at z
    refine (implPagesOfBad A0 A1 _ c0 _ c1 d2 d0 d1 w rfl rfl (by unfold maxLen; omega) (by unfold maxLen; omega) hok (repI h.1)).mono ?_
    rintro e w' ⟨rfl, hb⟩
    exact ⟨none, 0, rfl, Lib.hid (ownS1 rfl (.inl rfl)), hb⟩
set_option maxRecDepth 100000 in
theorem specPagesOfA (h : RepA w [.slice A0 d0.length c0, .slice A1 d1.length c1] [.I d0, .B d1]) (_cp : CapA [.slice A0 d0.length c0, .slice A1 d1.length c1]) (z : szA [.I d0, .B d1] ≤ 1048576) :
    Calls Try.prog 12 #[.agg #[.slice A0 d0.length c0, .slice A1 d1.length c1, .int .i64 d2]] w fun e w' => ∃ rA rc, e = .returned (.tuple #[.slice rA (pagesOf d0 d1 d2).1.length rc, .int .i64 (pagesOf d0 d1 d2).2]) ∧ Hid (OwnA w' w.heap.size w'.heap.size [.slice rA (pagesOf d0 d1 d2).1.length rc] [.S (pagesOf d0 d1 d2).1]) ∧ Below w.heap.size w w' := by
  cases hok : okFlash d0 d1 d2 with
  | true =>
    obtain ⟨hl, hm, _⟩ := okRange hok
    have e : pagesOf d0 d1 d2 = (pagesL d0 d1, 0) := by unfold pagesOf; rw [if_pos hok]
    have h1 := repI h.1
    have h2 := repB h.2.1
    rw [e, hl, hm]
    refine (specPagesOf A0 A1 c0 c1 d2 d0 d1 w hok h1 h2).mono ?_
    rintro e w' ⟨A', c', rfl, O, hb⟩
    exact ⟨A', c', by rw [pages_len], Lib.hid (ownS1 rfl O.out), hb⟩
  | false =>
    have e : pagesOf d0 d1 d2 = ([], 1) := by unfold pagesOf; rw [if_neg (by rw [hok]; decide)]
    rw [e]
    simp only [szA, Lf.sz] at z
    refine (specPagesOfBad A0 A1 _ c0 _ c1 d2 d0 d1 w rfl rfl (by unfold maxLen; omega) (by unfold maxLen; omega) hok (repI h.1)).mono ?_
    rintro e w' ⟨A', rfl, hb⟩
    exact ⟨A', 0, rfl, Lib.hid (ownS1 rfl (.inl rfl)), hb⟩
end
end Go.Proofs.Ythobepmlopegbaa
