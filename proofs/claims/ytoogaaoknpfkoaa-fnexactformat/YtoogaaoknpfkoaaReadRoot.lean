/- The contract of impl.ReadRoot. -/
import Derived.Test.YtoogaaoknpfkoaaNumWalk
import Derived.Test.YtoogaaoknpfkoaaRootSpec
import Derived.Deep.RegionLaw
import Derived.Test.YtoogaaoknpfkoaaApp
namespace Go.Proofs.Ytoogaaoknpfkoaa
open Go.RowKit

/-- The call hands back a root of its own, and a code. -/
def GivesRootCode (g : Int) (zs : List Int) (code : Int) (w : World) (e : Ending) (w' : World) : Prop :=
  ∃ A n c, e = .returned (.tuple #[.agg #[.int .i64 g, .slice A n c], .int .i64 code]) ∧ Hid (zs.length = n) ∧ Hid (OwnI w' w.heap.size w'.heap.size A zs) ∧ Below w.heap.size w w'
theorem givesR_none {w w' : World} {code : Int} (h : Below w.heap.size w w') : GivesRootCode 0 [] code w (.returned (.tuple #[.agg #[.int .i64 0, .slice none 0 0], .int .i64 code])) w' :=
  ⟨_, _, _, rfl, Lib.hid rfl, Lib.hid (.inl rfl), h⟩

theorem below_st2 {w w1 : World} {b : Nat} (h : Below w.heap.size w w1) (hb : w.heap.size ≤ b) (u v : Value) : Below w.heap.size w ((w1.setCell ⟨b, 0, none⟩ u).setCell ⟨b, 1, none⟩ v) := (h.setCell (p := ⟨b, 0, none⟩) hb u).setCell (p := ⟨b, 1, none⟩) hb v
theorem ext_list (t : ByteArray) (i j : Nat) : (t.extract i j).data.toList = (t.data.toList.drop i).take (j - i) := by
  rw [ByteArray.data_extract, Array.toList_extract, List.extract_eq_take_drop]

set_option maxRecDepth 100000 in
set_option maxHeartbeats 2000000 in
theorem implReadRoot (t : ByteArray) (w : World) (ht : t.size ≤ maxLen) :
    Calls Try.prog 50 #[.string t] w (GivesRootCode (rdG t) (rdZ t) (rdC t) w) := by
  unfold maxLen at ht
  have hb0 := alloc_below w (.cells #[.int .i64 0, .slice none 0 0] 57)
  by_cases h1 : 65536 < t.size
  · have h1' : (65536 : Int) < (t.size : Int) := by omega
    have HV : Hid (rdG t = 0 ∧ rdZ t = [] ∧ rdC t = 2) := Lib.hid (by unfold rdG rdZ rdC; rw [if_pos h1, if_pos h1, if_pos h1]; exact ⟨rfl, rfl, rfl⟩)
    rw [HV.out.1, HV.out.2.1, HV.out.2.2]
    clear h1
    go_enter Try.func50, Try.ntmps50
    go_wp2
    refine bodyPost_ret (v := .tuple #[.agg #[.int .i64 0, .slice none 0 0], .int .i64 2]) (by simp [results, Try.results50, go_sem]) rfl ?_
    exact givesR_none hb0
  have h1' : ¬ (65536 : Int) < (t.size : Int) := by omega
  by_cases h2 : t.size = 46
  · have h2' : (t.size : Int) = 46 := by omega
    have h2b : ((t.size : Int) != 46) = false := by rw [h2']; rfl
    have HA := Lib.hid (fun W => allDigits t W (by unfold maxLen; omega))
    by_cases h3 : allDig t.data.toList = true
    · rw [h3] at HA
      have H3 := Lib.hid h3
      have hX := ext_list t 0 6
      have hY := ext_list t 40 46
      by_cases h4 : t.data.toList.take 6 = t.data.toList.drop 40
      · have h4b : ((t.extract 0 6).toList == (t.extract 40 46).toList) = true := by
          rw [ByteArray.toList_eq, ByteArray.toList_eq, hX, hY]
          simp only [beq_iff_eq, List.drop_zero]
          rw [h4, List.take_of_length_le (by rw [List.length_drop]; show t.size - 40 ≤ 6; omega)]
        have HNg := Lib.hid (fun W => numberOf (t.extract 0 6) W (by rw [ByteArray.size_extract]; omega) (by rw [hX]; exact allDig_take _ _ (allDig_drop _ _ h3)))
        rw [hX, List.drop_zero, show 6 - 0 = 6 from rfl] at HNg
        rw [show ((numOf (t.data.toList.take 6) : Nat) : Int) = genT t.data.toList from rfl] at HNg
        have HB : Hid (rdB t.data.toList = rootB (genT t.data.toList) (tabT t.data.toList 17)) := Lib.hid (by
          unfold rdB
          rw [show decide (t.data.toList.length = 46) = true by exact decide_eq_true h2, h3, show decide (t.data.toList.take 6 = t.data.toList.drop 40) = true by exact decide_eq_true h4]
          simp)
        generalize hge : genT t.data.toList = g at HNg HB
        have HGe := Lib.hid hge
        clear hge
        have H1 := Lib.hid h1
        clear h3 hX hY h4 h1
        go_enter Try.func50, Try.ntmps50
        go_wp2
        go_quiet (first | (go_at_call 104; exact quiet_same (HA.out _)))
        go_wp2_with fail
        have HT := Lib.hid (And.intro h2 ht)
        clear h2 ht
        refine (HNg.out _).mono ?_
        rintro e w' ⟨rfl, rfl⟩
        go_wp2
        obtain ⟨W1, hW1⟩ : ∃ W1, W1 = ((w.alloc (.cells #[.int .i64 0, .slice none 0 0] 57)).drewN nq).alloc (.cells #[.int .i64 g, .slice none 0 0] 57) := ⟨_, rfl⟩
        have hb1 : Below w.heap.size w W1 := by rw [hW1]; exact bt (below_drewN hb0 nq) (alloc_below _ _)
        have X0 : Hid (Box W1 w.heap.size 57 #[.int .i64 0, .slice none 0 0]) := Lib.hid (by rw [hW1]; exact ((Box.new _ _ _).drewN nq).alloc _)
        have X1 : Hid (Box W1 (w.heap.size + 1) 57 #[.int .i64 g, .slice none 0 0]) := Lib.hid (by
          rw [hW1]; simpa using Box.new ((w.alloc (.cells #[.int .i64 0, .slice none 0 0] 57)).drewN nq) 57 #[.int .i64 g, .slice none 0 0])
        have hsz : w.heap.size + 2 ≤ W1.heap.size := by have := X1.out.lt; omega
        rw [← hW1]
        clear hW1 hb0 HA HNg h4b h2b
        go_loopw [5] (fun i wr => ∃ (k : Nat) (A : Option Addr) (c : Nat), k ≤ 17 ∧ i = .int .i64 ((6 + 2 * k : Nat) : Int) ∧ Below w.heap.size w wr ∧ Hid (Box wr w.heap.size 57 #[.int .i64 0, .slice none 0 0]) ∧ Hid (Box wr (w.heap.size + 1) 57 #[.int .i64 g, .slice A k c]) ∧ Hid (GroI wr (w.heap.size + 2) (.slice A k c) (tabT t.data.toList k)) ∧ w.heap.size + 2 ≤ wr.heap.size) (fun i _ => 40 - (intOf i).toNat)
        case atStart => exact ⟨0, none, 0, by omega, rfl, hb1, X0, X1, Lib.hid (rowv_nil _ _ _ _), hsz⟩
        case round =>
          clear X0 X1 hb1 hsz
          obtain ⟨k, A, c, hk, rfl, hbw, X0, X1, HR, hsz⟩ := hrel
          have f1 := X1.out.cell 1 rfl
          by_cases hlt : k < 17
          · have HNk := Lib.hid (fun W => numberOf (t.extract (6 + 2 * k) (6 + 2 * k + 2)) W (by rw [ByteArray.size_extract]; have := HT.out.1; omega) (by rw [ext_list]; exact allDig_take _ _ (allDig_drop _ _ H3.out)))
            rw [ext_list, show 6 + 2 * k + 2 - (6 + 2 * k) = 2 by omega, show ((numOf ((t.data.toList.drop (6 + 2 * k)).take 2) : Nat) : Int) = secT t.data.toList k from rfl] at HNk
            have HSt := Lib.hid (tabT_step t.data.toList k)
            generalize secT t.data.toList k = z at HNk HSt
            obtain ⟨i, hi⟩ : ∃ i : Nat, i = 6 + 2 * k := ⟨_, rfl⟩
            rw [← hi] at HNk ⊢
            have HI := Lib.hid hi
            have hi1 : (i : Int) < 40 := by omega
            have hi2 : i + 2 ≤ 40 := by omega
            have p1 : (0 : Int) ≤ (i : Int) + 2 := by omega
            have p2 : (i : Int) + 2 ≤ 46 := by omega
            have p3 : (i : Int) ≤ (i : Int) + 2 := by omega
            have p4 : ((i : Int) + 2).toNat = i + 2 := by omega
            have e1 : IntKind.i64.wrap ((i : Int) + 2) = (i : Int) + 2 := IntWalk.i64_in _ (by omega)
            clear hi
            have HRk : Hid (wr.ownsRow (w.heap.size + 2) 3 1 (.slice A k c) k ((tabT t.data.toList k).map (Value.int .i64))) := Lib.hid (by have := HR.out; unfold GroI at this; rwa [tabT_len] at this)
            have HLz := Lib.hid (tabT_len t.data.toList k)
            generalize tabT t.data.toList k = zs at HRk HSt HLz
            have HOw : Hid ((wr.drew.alloc (.cells #[.int .i64 z] 3)).ownsRow (w.heap.size + 2) 3 1 (.slice A k c) k (zs.map (Value.int .i64))) := Lib.hid (rowv_below HRk.out (bt ((Below.refl _ _).drew) (alloc_below _ _)))
            have HNw : Hid (∀ j u, [Value.int .i64 z][j]? = some u → (wr.drew.alloc (.cells #[.int .i64 z] 3)).cell? ⟨wr.heap.size, j, none⟩ = some u) := Lib.hid (fun j u hj => by
              match j, hj with
              | 0, hj => simp at hj; subst hj; exact (Box.new wr.drew 3 #[.int .i64 z]).cell 0 rfl)
            have HBa : Hid (Below wr.heap.size wr (wr.drew.alloc (.cells #[.int .i64 z] 3))) := Lib.hid (bt ((Below.refl _ _).drew) (alloc_below _ _))
            have HXa : Hid (Box (wr.drew.alloc (.cells #[.int .i64 z] 3)) (w.heap.size + 1) 57 #[.int .i64 g, .slice A k c]) := Lib.hid (X1.out.step HBa.out)
            have f2 : (wr.alloc (.cells #[.int .i64 z] 3)).drew.cell? ⟨w.heap.size + 1, 1, none⟩ = some (.slice A k c) := HXa.out.cell 1 rfl
            go_wp2
            go_region_law (first
              | (refine step_app_one rfl (.tmp 35) (.tmp 42) 36 3 rfl (.int .i64 0) 1 8 elemInt Try.underlying36 (w.heap.size + 2) (.slice A k c) k (zs.map (Value.int .i64)) ?_ HOw.out wr.heap.size 1 ?_ [.int .i64 z] rfl HNw.out ?_ ?_ ?_ ?_ ?_; simp [Act.eval]; simp [Act.eval]; (intro u hu; simp at hu; subst hu; rfl); (unfold maxLen; omega); omega; (simp; omega); intro A' c' w4 hR4 hc4 hg4 hb4; have HX4 := Lib.hid (HXa.out.below hb4 (by omega)); have y0 := HX4.out.cell 1 rfl; have y1 := HX4.out.frozen 1)
              | ((rw [if_pos (by rfl)]); go_simp; go_at_call 105; refine (HNk.out _).mono ?_; rintro e w' ⟨rfl, rfl⟩))
            all_goals clear f1 f2 e1 p1 p2 p3 p4
            all_goals (
              have HR4 := Lib.hid hR4
              have hbz : Below w.heap.size w w4 := bt hbw (bt HBa.out (Below.refl _ _)) |>.trans (hb4.mono (by omega))
              have hs4 : w.heap.size + 2 ≤ w4.heap.size := Nat.le_trans (Nat.le_trans hsz HBa.out.size) hb4.size
              have HX0 := Lib.hid ((X0.out.step HBa.out).below hb4 (by omega))
              clear hR4 hb4 hg4 y0 y1
              go_wp2
              go_roundw
              case rel => exact ⟨k + 1, A', c', by omega, by have := HI.out; congr 1; omega, hbz.setCell (by show w.heap.size ≤ w.heap.size + 1; omega) _, Lib.hid (HX0.out.far (by show w.heap.size ≠ w.heap.size + 1; omega) _), Lib.hid (HX4.out.set 1 _), Lib.hid (by unfold GroI; rw [HSt.out, List.length_append]; have := rowv_set HR4.out (p := ⟨w.heap.size + 1, 1, none⟩) (by show w.heap.size + 1 < w.heap.size + 2; omega) (.slice A' (k + 1) c'); simpa [HLz.out] using this), by simpa [World.setCell] using hs4⟩
              case measure => simp [intOf]; omega)
          · obtain rfl : k = 17 := by omega
            have f0 := X1.out.cell 0 rfl
            have hlt' : ¬ ((6 + 2 * 17 : Nat) : Int) < 40 := by omega
            have HV := Lib.hid (rootValid g A 17 c (tabT t.data.toList 17) wr (tabT_len _ _) (by unfold maxLen; omega) (HR.out.own (Nat.le_refl _)).reads)
            have HG1 : Hid (¬ 65536 < t.size) := H1
            by_cases hv : rootB g (tabT t.data.toList 17) = true
            · rw [hv] at HV
              have HW : Hid (rdG t = genT t.data.toList ∧ rdZ t = tabT t.data.toList 17 ∧ rdC t = 0) := Lib.hid (by
                unfold rdG rdZ rdC; rw [if_neg H1.out, if_neg H1.out, if_neg H1.out, HB.out, if_pos hv, if_pos hv, if_pos hv]; exact ⟨rfl, rfl, rfl⟩)
              clear hv
              go_wp2_with fail
              refine HV.out.mono ?_
              rintro e w5 ⟨rfl, hb5⟩
              have HX1 := Lib.hid (X1.out.step hb5)
              have HX0 := Lib.hid (X0.out.step hb5)
              have y0 := HX1.out.cell 0 rfl
              have y1 := HX1.out.cell 1 rfl
              have y2 := HX0.out.cell 0 rfl
              have y3 := HX0.out.cell 1 rfl
              have y4 := HX0.out.frozen 0
              have y5 := HX0.out.frozen 1
              have HO := Lib.hid (((HR.out.own (lo := w.heap.size) (by omega)).below hb5))
              have hbz := bt hbw hb5
              clear f0 f1
              go_wp2
              refine bodyPost_ret (v := .tuple #[.agg #[.int .i64 g, .slice A 17 c], .int .i64 0]) (by simp [results, Try.results50, go_sem, y2, y3]) rfl ?_
              rw [HW.out.1, HW.out.2.1, HW.out.2.2, HGe.out]
              refine ⟨_, _, _, rfl, Lib.hid (tabT_len _ _), Lib.hid ?_, below_st2 hbz (Nat.le_refl _) _ _⟩
              exact (((HO.out.wide (Nat.le_refl _) hb5.size).far HX0.out (by decide) 0 _).far (HX0.out.set 0 _) (by decide) 1 _).wide (Nat.le_refl _) (by simp [World.setCell])
            · have hv' : rootB g (tabT t.data.toList 17) = false := by simpa using hv
              rw [hv'] at HV
              have HW : Hid (rdG t = 0 ∧ rdZ t = [] ∧ rdC t = 9) := Lib.hid (by
                unfold rdG rdZ rdC; rw [if_neg H1.out, if_neg H1.out, if_neg H1.out, HB.out, if_neg hv, if_neg hv, if_neg hv]; exact ⟨rfl, rfl, rfl⟩)
              clear hv hv'
              go_wp2_with fail
              refine HV.out.mono ?_
              rintro e w5 ⟨rfl, hb5⟩
              have HX0 := Lib.hid (X0.out.step hb5)
              have y2 := HX0.out.cell 0 rfl
              have y3 := HX0.out.cell 1 rfl
              have y4 := HX0.out.frozen 0
              have y5 := HX0.out.frozen 1
              have hbz := bt hbw hb5
              clear f0 f1
              go_wp2
              refine bodyPost_ret (v := .tuple #[.agg #[.int .i64 0, .slice none 0 0], .int .i64 9]) (by simp [results, Try.results50, go_sem, y2, y3]) rfl ?_
              rw [HW.out.1, HW.out.2.1, HW.out.2.2]
              exact givesR_none (below_st2 hbz (Nat.le_refl _) _ _)
      · have h4b : ((t.extract 0 6).toList == (t.extract 40 46).toList) = false := by
          rw [ByteArray.toList_eq, ByteArray.toList_eq, hX, hY]
          simp only [beq_eq_false_iff_ne, List.drop_zero]
          rw [List.take_of_length_le (l := t.data.toList.drop 40) (by rw [List.length_drop]; show t.size - 40 ≤ 6; omega)]
          exact h4
        have HW : Hid (rdG t = 0 ∧ rdZ t = [] ∧ rdC t = 9) := Lib.hid (by
          have : rdB t.data.toList = false := by
            unfold rdB
            rw [show decide (t.data.toList.take 6 = t.data.toList.drop 40) = false by exact decide_eq_false h4]
            simp
          unfold rdG rdZ rdC; rw [if_neg h1, if_neg h1, if_neg h1, this]; exact ⟨rfl, rfl, rfl⟩)
        rw [HW.out.1, HW.out.2.1, HW.out.2.2]
        clear h3 hX hY h4 h1
        go_enter Try.func50, Try.ntmps50
        go_wp2
        go_quiet (first | (go_at_call 104; exact quiet_same (HA.out _)))
        go_wp2
        refine bodyPost_ret (v := .tuple #[.agg #[.int .i64 0, .slice none 0 0], .int .i64 9]) (by simp [results, Try.results50, go_sem]) rfl ?_
        exact givesR_none (below_st2 (below_drewN hb0 _) (Nat.le_refl _) _ _)
    · have h3' : allDig t.data.toList = false := by simpa using h3
      rw [h3'] at HA
      have HW : Hid (rdG t = 0 ∧ rdZ t = [] ∧ rdC t = 9) := Lib.hid (by
        have : rdB t.data.toList = false := by unfold rdB; rw [h3']; simp
        unfold rdG rdZ rdC; rw [if_neg h1, if_neg h1, if_neg h1, this]; exact ⟨rfl, rfl, rfl⟩)
      rw [HW.out.1, HW.out.2.1, HW.out.2.2]
      clear h3 h3' h1
      go_enter Try.func50, Try.ntmps50
      go_wp2
      go_quiet (first | (go_at_call 104; exact quiet_same (HA.out _)))
      go_wp2
      refine bodyPost_ret (v := .tuple #[.agg #[.int .i64 0, .slice none 0 0], .int .i64 9]) (by simp [results, Try.results50, go_sem]) rfl ?_
      exact givesR_none (below_st2 (below_drewN hb0 _) (Nat.le_refl _) _ _)
  · have h2b : ((t.size : Int) != 46) = true := by simp; omega
    have HW : Hid (rdG t = 0 ∧ rdZ t = [] ∧ rdC t = 9) := Lib.hid (by
      have : rdB t.data.toList = false := by unfold rdB; rw [show decide (t.data.toList.length = 46) = false by exact decide_eq_false h2]; simp
      unfold rdG rdZ rdC; rw [if_neg h1, if_neg h1, if_neg h1, this]; exact ⟨rfl, rfl, rfl⟩)
    rw [HW.out.1, HW.out.2.1, HW.out.2.2]
    clear h1
    go_enter Try.func50, Try.ntmps50
    go_wp2
    go_quiet (fail)
    go_wp2
    refine bodyPost_ret (v := .tuple #[.agg #[.int .i64 0, .slice none 0 0], .int .i64 9]) (by simp [results, Try.results50, go_sem]) rfl ?_
    exact givesR_none (below_st2 (below_drewN hb0 _) (Nat.le_refl _) _ _)
end Go.Proofs.Ytoogaaoknpfkoaa
