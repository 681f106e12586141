/- The contracts of spec.l02Read and spec.ReadRoot. -/
import Derived.Test.YtcchhbkbnbphhaaM6
import Derived.Deep.RegionHeld3
namespace Go.Proofs.Ytcchhbkbnbphhaa
open Go.RowKit

def GivesRootOk (g : Int) (zs : List Int) (ok : Bool) (w : World) (e : Ending) (w' : World) : Prop :=
  ∃ A n c, e = .returned (.tuple #[.agg #[.int .i64 g, .slice A n c], .bool ok]) ∧ Hid (zs.length = n) ∧ Hid (OwnI w' w.heap.size w'.heap.size A zs) ∧ Below w.heap.size w w'
theorem givesO_none {w w' : World} (h : Below w.heap.size w w') : GivesRootOk 0 [] false w (.returned (.tuple #[.agg #[.int .i64 0, .slice none 0 0], .bool false])) w' :=
  ⟨_, _, _, rfl, Lib.hid rfl, Lib.hid (.inl rfl), h⟩
def okG (l : List UInt8) : Int := if rdB l = true then genT l else 0
def okZ (l : List UInt8) : List Int := if rdB l = true then tabT l 17 else []
theorem ok_no {l : List UInt8} (h : rdB l = false) : okG l = 0 ∧ okZ l = [] := by unfold okG okZ; rw [h]; exact ⟨rfl, rfl⟩

set_option maxRecDepth 100000 in
set_option maxHeartbeats 4000000 in
theorem l02Read (t : ByteArray) (w : World) (ht : t.size ≤ maxLen) :
    Calls Try.prog 77 #[.string t] w (GivesRootOk (okG t.data.toList) (okZ t.data.toList) (rdB t.data.toList) w) := by
  unfold maxLen at ht
  have hb0 := alloc_below w (.cells #[.int .i64 0, .slice none 0 0] 31)
  by_cases h2 : t.size = 46
  · have h2' : (t.size : Int) = 46 := by omega
    have h2b : ((t.size : Int) != 46) = false := by rw [h2']; rfl
    go_enter Try.func77, Try.ntmps77
    go_wp2
    go_loop [4] (fun i => ∃ k : Nat, k ≤ t.size ∧ i = .int .i64 k ∧ Hid (allDig t.data.toList = allDig (t.data.toList.drop k))) (fun i => t.size - (intOf i).toNat)
    case atStart => exact ⟨0, Nat.zero_le _, rfl, Lib.hid rfl⟩
    case round =>
      obtain ⟨k, hk, rfl, HTk⟩ := hrel
      by_cases hlt : k < t.size
      · have HS := Lib.hid (allDig_step t k hlt)
        have HC := Lib.hid (fun W => l00Digit (t[k].toNat : Int) W)
        by_cases hE : digB (t[k].toNat : Int) = true
        · have HE := Lib.hid hE
          rw [hE] at HC
          clear hE
          go_wp2_with (first | (go_at_call 90; refine (HC.out _).mono ?_; rintro e w' ⟨rfl, rfl⟩))
          go_round
          case rel => exact ⟨k + 1, by omega, by go_num, Lib.hid (by rw [HTk.out, HS.out, HE.out]; rfl)⟩
          case measure => simp [intOf]; omega
        · have hE' : digB (t[k].toNat : Int) = false := by simpa using hE
          have HE := Lib.hid hE'
          rw [hE'] at HC
          clear hE hE'
          go_wp2_with (first | (go_at_call 90; refine (HC.out _).mono ?_; rintro e w' ⟨rfl, rfl⟩))
          refine bodyPost_ret (v := .tuple #[.agg #[.int .i64 0, .slice none 0 0], .bool false]) (by simp [results, Try.results77, go_sem]) rfl ?_
          have hn : rdB t.data.toList = false := by unfold rdB; rw [HTk.out, HS.out, HE.out]; simp
          rw [(ok_no hn).1, (ok_no hn).2, hn]
          exact givesO_none hb0
      · have h3 : allDig t.data.toList = true := by rw [HTk.out]; exact allDig_end t k (by omega)
        have H3 := Lib.hid h3
        have HNg := Lib.hid (fun W => l02Fixed (t.extract 0 6) W (by rw [ByteArray.size_extract]; omega) (by rw [ext_list]; exact allDig_take _ _ (allDig_drop _ _ h3)))
        rw [ext_list, List.drop_zero, show 6 - 0 = 6 from rfl] at HNg
        rw [show ((numOf (t.data.toList.take 6) : Nat) : Int) = genT t.data.toList from rfl] at HNg
        generalize hge : genT t.data.toList = g at HNg
        have HGe := Lib.hid hge
        obtain rfl : k = 46 := by omega
        have HB : Hid (rdB t.data.toList = (decide (t.data.toList.take 6 = t.data.toList.drop 40) && rootB g (tabT t.data.toList 17))) := Lib.hid (by
          unfold rdB
          rw [show decide (t.data.toList.length = 46) = true by exact decide_eq_true h2, h3, hge]
          simp)
        have hX := ext_list t 0 6
        have hY := ext_list t 40 46
        have H4 : Hid (((t.extract 40 46).toList == (t.extract 0 6).toList) = decide (t.data.toList.take 6 = t.data.toList.drop 40)) := Lib.hid (by
          rw [ByteArray.toList_eq, ByteArray.toList_eq, hX, hY, Bool.eq_iff_iff]
          simp only [beq_iff_eq, List.drop_zero, decide_eq_true_eq]
          rw [List.take_of_length_le (l := t.data.toList.drop 40) (by rw [List.length_drop]; show t.size - 40 ≤ 6; omega)]
          exact eq_comm)
        clear hge h3 HTk hX hY
        go_wp2_with fail
        refine (HNg.out _).mono ?_
        rintro e w' ⟨rfl, rfl⟩
        go_wp2
        obtain ⟨W1, hW1⟩ : ∃ W1, W1 = ((w.alloc (.cells #[.int .i64 0, .slice none 0 0] 31)).alloc (.cells #[] 3)).alloc (.cells #[.int .i64 g, .slice (some ⟨w.heap.size + 1, 0, none⟩) 0 0] 31) := ⟨_, rfl⟩
        have hb1 : Below w.heap.size w W1 := by rw [hW1]; exact bt (bt hb0 (alloc_below _ _)) (alloc_below _ _)
        have X0 : Hid (Box W1 w.heap.size 31 #[.int .i64 0, .slice none 0 0]) := Lib.hid (by rw [hW1]; exact ((Box.new _ _ _).alloc _).alloc _)
        have X1 : Hid (Box W1 (w.heap.size + 1 + 1) 31 #[.int .i64 g, .slice (some ⟨w.heap.size + 1, 0, none⟩) 0 0]) := Lib.hid (by
          rw [hW1]; simpa using Box.new ((w.alloc (.cells #[.int .i64 0, .slice none 0 0] 31)).alloc (.cells #[] 3)) 31 #[.int .i64 g, .slice (some ⟨w.heap.size + 1, 0, none⟩) 0 0])
        have X2 : Hid (Box W1 (w.heap.size + 1) 3 #[]) := Lib.hid (by
          rw [hW1]; exact (by simpa using Box.new (w.alloc (.cells #[.int .i64 0, .slice none 0 0] 31)) 3 #[] : Box ((w.alloc (.cells #[.int .i64 0, .slice none 0 0] 31)).alloc (.cells #[] 3)) (w.heap.size + 1) 3 #[]).alloc _)
        have hsz : w.heap.size + 2 ≤ W1.heap.size := by have := X1.out.lt; omega
        have HR0 : Hid (GroI W1 (w.heap.size + 1) (.slice (some ⟨w.heap.size + 1, 0, none⟩) 0 0) (tabT t.data.toList 0)) := Lib.hid (rowv_empty (Nat.le_refl _) X2.out)
        rw [← hW1]
        clear hW1 hb0 HNg h2b X2
        have HT := Lib.hid (And.intro h2 ht)
        clear h2 ht hk hlt
        go_loopw [6] (fun i wr => ∃ (k : Nat) (A : Option Addr) (c : Nat), k ≤ 17 ∧ i = .int .i64 (k : Int) ∧ Below w.heap.size w wr ∧ Hid (Box wr w.heap.size 31 #[.int .i64 0, .slice none 0 0]) ∧ Hid (Box wr (w.heap.size + 1 + 1) 31 #[.int .i64 g, .slice A k c]) ∧ Hid (GroI wr (w.heap.size + 1) (.slice A k c) (tabT t.data.toList k)) ∧ k ≤ c ∧ w.heap.size + 2 ≤ wr.heap.size) (fun i _ => 17 - (intOf i).toNat)
        case atStart => exact ⟨0, _, 0, by omega, rfl, hb1, X0, X1, HR0, Nat.le_refl _, hsz⟩
        case round =>
          clear X0 X1 hb1 hsz HR0
          obtain ⟨k, A, c, hk, rfl, hbw, X0, X1, HR, hcap, hsz⟩ := hrel
          have f1 := X1.out.cell 1 rfl
          by_cases hlt : k < 17
          · have HNk := Lib.hid (fun W => l02Fixed (t.extract (6 + 2 * k) (8 + 2 * k)) W (by rw [ByteArray.size_extract]; have := HT.out.1; omega) (by rw [ext_list]; exact allDig_take _ _ (allDig_drop _ _ H3.out)))
            rw [ext_list, show 8 + 2 * k - (6 + 2 * k) = 2 by omega, show ((numOf ((t.data.toList.drop (6 + 2 * k)).take 2) : Nat) : Int) = secT t.data.toList k from rfl] at HNk
            have HSt := Lib.hid (tabT_step t.data.toList k)
            generalize secT t.data.toList k = z at HNk HSt
            have hi1 : (k : Int) < 17 := by omega
            have p1 : (0 : Int) ≤ 6 + 2 * (k : Int) := by omega
            have p2 : 8 + 2 * (k : Int) ≤ 46 := by omega
            have p3 : 6 + 2 * (k : Int) ≤ 8 + 2 * (k : Int) := by omega
            have p5 : (0 : Int) ≤ 8 + 2 * (k : Int) := by omega
            have e1 : IntKind.i64.wrap (2 * (k : Int)) = 2 * (k : Int) := IntWalk.i64_in _ (by omega)
            have e2 : IntKind.i64.wrap (6 + 2 * (k : Int)) = 6 + 2 * (k : Int) := IntWalk.i64_in _ (by omega)
            have e3 : IntKind.i64.wrap (8 + 2 * (k : Int)) = 8 + 2 * (k : Int) := IntWalk.i64_in _ (by omega)
            have p4 : (6 + 2 * (k : Int)).toNat = 6 + 2 * k := by omega
            have p6 : (8 + 2 * (k : Int)).toNat = 8 + 2 * k := by omega
            have HRk : Hid (wr.ownsRow (w.heap.size + 1) 3 1 (.slice A k c) k ((tabT t.data.toList k).map (Value.int .i64))) := Lib.hid (by have := HR.out; unfold GroI at this; rwa [tabT_len] at this)
            have HLz := Lib.hid (tabT_len t.data.toList k)
            generalize tabT t.data.toList k = zs at HRk HSt HLz
            have HBa : Hid (Below wr.heap.size wr (wr.drew.alloc (.cells #[.int .i64 z] 3))) := Lib.hid (bt ((Below.refl _ _).drew) (alloc_below _ _))
            have HOw : Hid ((wr.drew.alloc (.cells #[.int .i64 z] 3)).ownsRow (w.heap.size + 1) 3 1 (.slice A k c) k (zs.map (Value.int .i64))) := Lib.hid (rowv_below HRk.out HBa.out)
            have HNw : Hid (∀ j u, [Value.int .i64 z][j]? = some u → (wr.drew.alloc (.cells #[.int .i64 z] 3)).cell? ⟨wr.heap.size, j, none⟩ = some u) := Lib.hid (fun j u hj => by
              match j, hj with
              | 0, hj => simp at hj; subst hj; exact (Box.new wr.drew 3 #[.int .i64 z]).cell 0 rfl)
            have HXa : Hid (Box (wr.drew.alloc (.cells #[.int .i64 z] 3)) (w.heap.size + 1 + 1) 31 #[.int .i64 g, .slice A k c]) := Lib.hid (X1.out.step HBa.out)
            have f2 : (wr.alloc (.cells #[.int .i64 z] 3)).drew.cell? ⟨w.heap.size + 1 + 1, 1, none⟩ = some (.slice A k c) := HXa.out.cell 1 rfl
            go_wp2
            go_region_law (first
              | (refine step_app_one rfl (.tmp 33) (.tmp 43) 29 3 rfl (.int .i64 0) 1 8 elemInt Try.underlying29 (w.heap.size + 1) (.slice A k c) k (zs.map (Value.int .i64)) ?_ HOw.out wr.heap.size 1 ?_ [.int .i64 z] rfl HNw.out ?_ ?_ ?_ ?_ ?_; simp [Act.eval]; simp [Act.eval]; (intro u hu; simp at hu; subst hu; rfl); (unfold maxLen; omega); omega; (simp; omega); intro A' c' w4 hR4 hc4 hg4 hb4; have HX4 := Lib.hid (HXa.out.grown HOw.out (by decide) hg4); have y0 := HX4.out.cell 1 rfl; have y1 := HX4.out.frozen 1)
              | ((rw [if_pos (by rfl)]); go_simp; go_at_call 91; refine (HNk.out _).mono ?_; rintro e w' ⟨rfl, rfl⟩))
            all_goals clear f1 f2 e1 e2 e3 p1 p2 p3 p4 p5 p6
            all_goals (
              have HR4 := Lib.hid hR4
              have hbz : Below w.heap.size w w4 := bt hbw (bt HBa.out (Below.refl _ _)) |>.trans (hb4.mono (by omega))
              have hs4 : w.heap.size + 2 ≤ w4.heap.size := Nat.le_trans (Nat.le_trans hsz HBa.out.size) hb4.size
              have HX0 := Lib.hid ((X0.out.step HBa.out).below hb4 (by omega))
              have HRs : Hid ((w4.setCell ⟨w.heap.size + 1 + 1, 1, none⟩ (.slice A' (k + 1) c')).ownsRow (w.heap.size + 1) 3 1 (.slice A' (k + 1) c') (k + 1) (zs.map (Value.int .i64) ++ [.int .i64 z])) := Lib.hid (rowv_setBox HR4.out HX4.out (by decide) 1 _)
              clear hR4 hb4 hg4 y0 y1
              go_wp2
              go_roundw
              case rel => exact ⟨k + 1, A', c', by omega, by go_num, hbz.setCell (by show w.heap.size ≤ w.heap.size + 1 + 1; omega) _, Lib.hid (HX0.out.far (by show w.heap.size ≠ w.heap.size + 1 + 1; omega) _), Lib.hid (HX4.out.set 1 _), Lib.hid (by unfold GroI; rw [HSt.out, List.length_append]; have := HRs.out; simpa [HLz.out] using this), hc4, by simpa [World.setCell] using hs4⟩
              case measure => simp [intOf]; omega)
          · obtain rfl : k = 17 := by omega
            have f0 := X1.out.cell 0 rfl
            have h2' : t.size = 46 := HT.out.1
            have HV := Lib.hid (fun W hW => specRootOK g A 17 c (tabT t.data.toList 17) W (tabT_len _ _) (by unfold maxLen; omega) hcap hW)
            have HRr := Lib.hid ((HR.out.own (Nat.le_refl _)).reads)
            by_cases hv : rootB g (tabT t.data.toList 17) = true
            · rw [hv] at HV
              by_cases h4 : t.data.toList.take 6 = t.data.toList.drop 40
              · have hq : ((t.extract 40 46).toList == (t.extract 0 6).toList) = true := by rw [H4.out]; exact decide_eq_true h4
                have HN : Hid (rdB t.data.toList = true) := Lib.hid (by rw [HB.out, hv, show decide (t.data.toList.take 6 = t.data.toList.drop 40) = true from decide_eq_true h4]; rfl)
                clear hv h4
                have h6 : Below wr.heap.size wr wr.drew := (Below.refl _ _).drew
                have HK : Hid (∀ W', Below wr.heap.size wr W' → W'.cell? ⟨w.heap.size + 1 + 1, 0, none⟩ = some (.int .i64 g) ∧ W'.cell? ⟨w.heap.size + 1 + 1, 1, none⟩ = some (.slice A 17 c)) := Lib.hid (fun W' hb => ⟨(X1.out.step hb).cell 0 rfl, (X1.out.step hb).cell 1 rfl⟩)
                have e9 : IntKind.i64.wrap 40 = 40 := IntWalk.i64_in _ (by omega)
                have e8 : IntKind.i64.wrap (46 - 6) = 40 := IntWalk.i64_in _ (by omega)
                go_wp2
                go_region_held3 (fun W' => W'.cell? ⟨w.heap.size + 1 + 1, 0, none⟩ = some (.int .i64 g) ∧ W'.cell? ⟨w.heap.size + 1 + 1, 1, none⟩ = some (.slice A 17 c))
                  (first | exact HK.out _ h6 | exact HK.out _ (bt h6 hb5))
                  (first | (go_at_call 92; refine (HV.out wr.drew ?_).mono ?_; exact HRr.out; rintro e w5 ⟨rfl, hb5⟩))
                have hb5' := bt h6 hb5
                have HX1 := Lib.hid (X1.out.step hb5')
                have HX0 := Lib.hid (X0.out.step hb5')
                have y0 := HX1.out.cell 0 rfl
                have y1 := HX1.out.cell 1 rfl
                have y2 := HX0.out.cell 0 rfl
                have y3 := HX0.out.cell 1 rfl
                have y4 := HX0.out.frozen 0
                have y5 := HX0.out.frozen 1
                have HO := Lib.hid ((HR.out.own (lo := w.heap.size) (by omega)).below hb5')
                have hbz := bt hbw hb5'
                clear f0 f1 e8 e9 hb5
                go_wp2
                refine bodyPost_ret (v := .tuple #[.agg #[.int .i64 g, .slice A 17 c], .bool true]) (by simp [results, Try.results77, go_sem, y2, y3]) rfl ?_
                have hG : okG t.data.toList = g := by unfold okG; rw [if_pos HN.out, HGe.out]
                have hZ : okZ t.data.toList = tabT t.data.toList 17 := by unfold okZ; rw [if_pos HN.out]
                rw [hG, hZ, HN.out]
                refine ⟨_, _, _, rfl, Lib.hid (tabT_len _ _), Lib.hid ?_, below_st2 hbz (Nat.le_refl _) _ _⟩
                exact (((HO.out.wide (Nat.le_refl _) hb5'.size).far HX0.out (by decide) 0 _).far (HX0.out.set 0 _) (by decide) 1 _).wide (Nat.le_refl _) (by simp [World.setCell])
              · have hq : ((t.extract 40 46).toList == (t.extract 0 6).toList) = false := by rw [H4.out]; exact decide_eq_false h4
                have HN : Hid (rdB t.data.toList = false) := Lib.hid (by rw [HB.out, show decide (t.data.toList.take 6 = t.data.toList.drop 40) = false from decide_eq_false h4]; rfl)
                clear hv h4
                have h6 : Below wr.heap.size wr wr.drew := (Below.refl _ _).drew
                have HK : Hid (∀ W', Below wr.heap.size wr W' → W'.cell? ⟨w.heap.size + 1 + 1, 0, none⟩ = some (.int .i64 g) ∧ W'.cell? ⟨w.heap.size + 1 + 1, 1, none⟩ = some (.slice A 17 c)) := Lib.hid (fun W' hb => ⟨(X1.out.step hb).cell 0 rfl, (X1.out.step hb).cell 1 rfl⟩)
                have e9 : IntKind.i64.wrap 40 = 40 := IntWalk.i64_in _ (by omega)
                have e8 : IntKind.i64.wrap (46 - 6) = 40 := IntWalk.i64_in _ (by omega)
                go_wp2
                go_region_held3 (fun W' => W'.cell? ⟨w.heap.size + 1 + 1, 0, none⟩ = some (.int .i64 g) ∧ W'.cell? ⟨w.heap.size + 1 + 1, 1, none⟩ = some (.slice A 17 c))
                  (first | exact HK.out _ h6 | exact HK.out _ (bt h6 hb5))
                  (first | (go_at_call 92; refine (HV.out wr.drew ?_).mono ?_; exact HRr.out; rintro e w5 ⟨rfl, hb5⟩))
                have hb5' := bt h6 hb5
                have HX1 := Lib.hid (X1.out.step hb5')
                have HX0 := Lib.hid (X0.out.step hb5')
                have y0 := HX1.out.cell 0 rfl
                have y1 := HX1.out.cell 1 rfl
                have y2 := HX0.out.cell 0 rfl
                have y3 := HX0.out.cell 1 rfl
                have y4 := HX0.out.frozen 0
                have y5 := HX0.out.frozen 1
                have HO := Lib.hid ((HR.out.own (lo := w.heap.size) (by omega)).below hb5')
                have hbz := bt hbw hb5'
                clear f0 f1 e8 e9 hb5
                go_wp2
                refine bodyPost_ret (v := .tuple #[.agg #[.int .i64 0, .slice none 0 0], .bool false]) (by simp [results, Try.results77, go_sem, y2, y3]) rfl ?_
                rw [(ok_no HN.out).1, (ok_no HN.out).2, HN.out]
                exact givesO_none (below_st2 hbz (Nat.le_refl _) _ _)
            · have hv' : rootB g (tabT t.data.toList 17) = false := by simpa using hv
              rw [hv'] at HV
              have HN : Hid (rdB t.data.toList = false) := Lib.hid (by rw [HB.out, hv']; simp)
              clear hv hv'
              have h6 : Below wr.heap.size wr wr.drew := (Below.refl _ _).drew
              have HK : Hid (∀ W', Below wr.heap.size wr W' → W'.cell? ⟨w.heap.size + 1 + 1, 0, none⟩ = some (.int .i64 g) ∧ W'.cell? ⟨w.heap.size + 1 + 1, 1, none⟩ = some (.slice A 17 c)) := Lib.hid (fun W' hb => ⟨(X1.out.step hb).cell 0 rfl, (X1.out.step hb).cell 1 rfl⟩)
              have e9 : IntKind.i64.wrap 40 = 40 := IntWalk.i64_in _ (by omega)
              have e8 : IntKind.i64.wrap (46 - 6) = 40 := IntWalk.i64_in _ (by omega)
              go_wp2
              refine wp_region_any (by kernel_rfl) ?_
              change wpAny _ _ _ _ _ _ _ (World.drew _)
              refine wpAny_ready (rs := [0]) (by kernel_rfl) (by simp) ?_
              refine AllReady.cons rfl (fun K hK => ?_) AllReady.nil
              go_simp
              refine hK _ _ ?_
              clear hK K
              refine wpAny_ready (rs := [1]) (by kernel_rfl) (by simp) ?_
              refine AllReady.cons rfl (fun K hK => ?_) AllReady.nil
              go_simp
              refine (HV.out wr.drew HRr.out).mono ?_
              rintro e w5 ⟨rfl, hb5⟩
              refine hK _ _ ?_
              clear hK K
              refine wpAny_take (i := 2) (v := .bool true) rfl (by kernel_rfl) (by kernel_rfl) (by kernel_rfl) (fun _ _ _ h => h) (Or.inl ⟨by rfl, by intro w; go_simp⟩) ?_
              refine wpAny_take (i := 3) (v := .bool true) rfl (by kernel_rfl) (by kernel_rfl) (by kernel_rfl) (fun _ _ _ h => h) (Or.inl ⟨by rfl, by intro w; go_simp⟩) ?_
              refine wpAny_take (i := 4) (v := undef) rfl (by kernel_rfl) (by kernel_rfl) (by kernel_rfl) (fun _ _ _ h => h) (Or.inr ⟨by kernel_rfl, rfl⟩) ?_
              refine wpAny_take (i := 5) (v := undef) rfl (by kernel_rfl) (by kernel_rfl) (by kernel_rfl) (fun _ _ _ h => h) (Or.inr ⟨by kernel_rfl, rfl⟩) ?_
              refine wpAny_take (i := 6) (v := undef) rfl (by kernel_rfl) (by kernel_rfl) (by kernel_rfl) (fun _ _ _ h => h) (Or.inr ⟨by kernel_rfl, rfl⟩) ?_
              refine wpAny_take (i := 7) (v := undef) rfl (by kernel_rfl) (by kernel_rfl) (by kernel_rfl) (fun _ _ _ h => h) (Or.inr ⟨by kernel_rfl, rfl⟩) ?_
              refine wpAny_take (i := 8) (v := undef) rfl (by kernel_rfl) (by kernel_rfl) (by kernel_rfl) (fun _ _ _ h => h) (Or.inr ⟨by kernel_rfl, rfl⟩) ?_
              refine wpAny_take (i := 9) (v := undef) rfl (by kernel_rfl) (by kernel_rfl) (by kernel_rfl) (fun _ _ _ h => h) (Or.inr ⟨by kernel_rfl, rfl⟩) ?_
              refine wpAny_take (i := 10) (v := undef) rfl (by kernel_rfl) (by kernel_rfl) (by kernel_rfl) (fun _ _ _ h => h) (Or.inr ⟨by kernel_rfl, rfl⟩) ?_
              refine wpAny_take (i := 11) (v := undef) rfl (by kernel_rfl) (by kernel_rfl) (by kernel_rfl) (fun _ _ _ h => h) (Or.inr ⟨by kernel_rfl, rfl⟩) ?_
              simp only [List.getElem_toArray, List.getElem_cons_zero, List.getElem_cons_succ, Act.put, List.setIfInBounds_toArray, List.set_cons_zero, List.set_cons_succ]
              refine wpAny_take (i := 12) (v := .bool true) rfl (by kernel_rfl) (by kernel_rfl) (by kernel_rfl) (fun _ _ _ h => h) (Or.inl ⟨by kernel_rfl, by intro w; go_simp⟩) ?_
              refine wpAny_done (by kernel_rfl) ?_ _
              simp only [List.getElem_toArray, List.getElem_cons_zero, List.getElem_cons_succ, Act.put, List.setIfInBounds_toArray, List.set_cons_zero, List.set_cons_succ]
              have hb5' := bt h6 hb5
              have HX1 := Lib.hid (X1.out.step hb5')
              have HX0 := Lib.hid (X0.out.step hb5')
              have y0 := HX1.out.cell 0 rfl
              have y1 := HX1.out.cell 1 rfl
              have y2 := HX0.out.cell 0 rfl
              have y3 := HX0.out.cell 1 rfl
              have y4 := HX0.out.frozen 0
              have y5 := HX0.out.frozen 1
              have HO := Lib.hid ((HR.out.own (lo := w.heap.size) (by omega)).below hb5')
              have hbz := bt hbw hb5'
              clear f0 f1 e8 e9 hb5
              go_wp2
              refine bodyPost_ret (v := .tuple #[.agg #[.int .i64 0, .slice none 0 0], .bool false]) (by simp [results, Try.results77, go_sem, y2, y3]) rfl ?_
              rw [(ok_no HN.out).1, (ok_no HN.out).2, HN.out]
              exact givesO_none (below_st2 hbz (Nat.le_refl _) _ _)
  · have h2b : ((t.size : Int) != 46) = true := by simp; omega
    have HW := Lib.hid (show rdB t.data.toList = false by unfold rdB; rw [show decide (t.data.toList.length = 46) = false by exact decide_eq_false h2]; simp)
    go_enter Try.func77, Try.ntmps77
    go_wp2
    refine bodyPost_ret (v := .tuple #[.agg #[.int .i64 0, .slice none 0 0], .bool false]) (by simp [results, Try.results77, go_sem]) rfl ?_
    rw [(ok_no HW.out).1, (ok_no HW.out).2, HW.out]
    exact givesO_none hb0

theorem rd_ok (t : ByteArray) (h : ¬ 65536 < t.size) : rdG t = okG t.data.toList ∧ rdZ t = okZ t.data.toList ∧ rdC t = if rdB t.data.toList = true then 0 else 9 := by
  unfold rdG rdZ rdC okG okZ
  rw [if_neg h, if_neg h, if_neg h]; exact ⟨rfl, rfl, rfl⟩
theorem OwnI.two {w : World} {lo hi b : Nat} {A : Option Addr} {zs : List Int} {t : TypeId} {cs : Array Value} (h : OwnI w lo hi A zs) (X : Box w b t cs) (ht : t ≠ 3) (u v : Value) : OwnI ((w.setCell ⟨b, 0, none⟩ u).setCell ⟨b, 1, none⟩ v) lo hi A zs :=
  (h.far X ht 0 u).far (X.set 0 u) ht 1 v

end Go.Proofs.Ytcchhbkbnbphhaa
