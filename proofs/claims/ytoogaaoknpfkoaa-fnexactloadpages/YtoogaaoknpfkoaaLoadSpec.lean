/- The contract of l02Load. -/
import Derived.Test.YtoogaaoknpfkoaaFreeSpec
import Derived.Deep.RegionHeld3
namespace Go.Proofs.Ytoogaaoknpfkoaa
open Go.RowKit

/-- The pages of a table. -/
def loadL (ss : List ByteArray) (ws : List (Int × ByteArray)) (zs : List Int) : List ByteArray := zs.map (readS ss ws)
theorem loadL_step (ss : List ByteArray) (ws : List (Int × ByteArray)) (zs : List Int) (k : Nat) (h : k < zs.length) : loadL ss ws (zs.take (k + 1)) = loadL ss ws (zs.take k) ++ [readS ss ws (zs.getD k 0)] := by
  unfold loadL
  rw [List.take_succ_eq_append_getElem h, List.map_append, List.getD_eq_getElem?_getD, List.getElem?_eq_getElem h]; rfl
/-- The call hands back a []string of its own. -/
def GivesStrs (rs : List ByteArray) (w : World) (e : Ending) (w' : World) : Prop :=
  ∃ A n c, e = .returned (.slice A n c) ∧ Hid (rs.length = n) ∧ Hid (OwnS w' w.heap.size w'.heap.size A rs) ∧ Below w.heap.size w w'

set_option maxRecDepth 100000 in
set_option maxHeartbeats 4000000 in
theorem l02Load (A C : Option Addr) (n c m d : Nat) (ss : List ByteArray) (ws : List (Int × ByteArray)) (g : Int) (T : Option Addr) (tn tc : Nat) (zs : List Int) (w : World) (hl : ss.length = n) (hm : ws.length = m) (hok : okDisk ss ws = true) (h : StrL w A ss) (hw : WrL w C ws) (ht : zs.length = tn) (h17 : tn ≤ 17) (hz : ∀ z ∈ zs, 0 ≤ z ∧ z ≤ 47) (hT : IntL w T zs) :
    Calls Try.prog 114 #[.agg #[.slice A n c, .slice C m d], .agg #[.int .i64 g, .slice T tn tc]] w (GivesStrs (loadL ss ws zs) w) := by
  have hlen := okDisk_len hok
  have HC := Lib.hid (fun W (hb : Below w.heap.size w W) (k : Nat) (hk : k < 48) => l01Read A C n c m d ss ws k W hl hm (by unfold maxLen; omega) (by unfold maxLen; omega) (h.below hb) (hw.below hb) (by omega))
  have HL := Lib.hid ht
  have HZ := Lib.hid hz
  have HT := Lib.hid hT
  obtain ⟨W0, hW0⟩ : ∃ W0, W0 = ((w.alloc (.cells #[.slice A n c, .slice C m d] 26)).alloc (.cells #[.int .i64 g, .slice T tn tc] 57)).alloc (.cells #[] 9) := ⟨_, rfl⟩
  have hb0 : Below w.heap.size w W0 := by rw [hW0]; exact bt (bt (alloc_below _ _) (alloc_below _ _)) (alloc_below _ _)
  have X0 : Hid (Box W0 w.heap.size 26 #[.slice A n c, .slice C m d]) := Lib.hid (by rw [hW0]; exact ((Box.new _ _ _).alloc _).alloc _)
  have X1 : Hid (Box W0 (w.heap.size + 1) 57 #[.int .i64 g, .slice T tn tc]) := Lib.hid (by
    rw [hW0]; exact (by simpa using Box.new (w.alloc (.cells #[.slice A n c, .slice C m d] 26)) 57 #[.int .i64 g, .slice T tn tc] : Box ((w.alloc (.cells #[.slice A n c, .slice C m d] 26)).alloc (.cells #[.int .i64 g, .slice T tn tc] 57)) (w.heap.size + 1) 57 #[.int .i64 g, .slice T tn tc]).alloc _)
  have X2 : Hid (Box W0 (w.heap.size + 1 + 1) 9 #[]) := Lib.hid (by
    rw [hW0]; simpa using Box.new ((w.alloc (.cells #[.slice A n c, .slice C m d] 26)).alloc (.cells #[.int .i64 g, .slice T tn tc] 57)) 9 #[])
  have hs0 : w.heap.size + 2 ≤ W0.heap.size := by have := X2.out.lt; omega
  have HW0 := Lib.hid hW0
  clear hl hm hok h hw ht hz hT hW0 hlen
  go_enter Try.func114, Try.ntmps114
  go_wp2
  rw [← HW0.out]
  clear HW0
  go_loopw [6, 5] (fun i v wr => ∃ (k : Nat) (A' : Option Addr) (c' : Nat), k ≤ tn ∧ i = .int .i64 k ∧ v = .slice A' k c' ∧ Below w.heap.size w wr ∧ Hid (Box wr w.heap.size 26 #[.slice A n c, .slice C m d]) ∧ Hid (Box wr (w.heap.size + 1) 57 #[.int .i64 g, .slice T tn tc]) ∧ Hid (GroS wr (w.heap.size + 2) (.slice A' k c') (loadL ss ws (zs.take k))) ∧ w.heap.size + 2 ≤ wr.heap.size) (fun i _ _ => tn - (intOf i).toNat)
  case atStart => exact ⟨0, _, 0, Nat.zero_le _, rfl, rfl, hb0, X0, X1, Lib.hid (rowv_empty (Nat.le_refl _) X2.out), hs0⟩
  case round =>
    clear hb0 X0 X1 X2 hs0
    obtain ⟨k, A', c', hk, rfl, rfl, hbw, X0, X1, HG, hsz⟩ := hrel
    have f3 := X1.out.cell 1 rfl
    by_cases hlt : k < tn
    · obtain ⟨tb, toff, rfl, hc⟩ := (HT.out.below hbw) k (by rw [HL.out]; exact hlt)
      have HTB : Hid (tb < w.heap.size) := Lib.hid (by
        obtain ⟨b', off', e, hc'⟩ := HT.out k (by rw [HL.out]; exact hlt)
        injection e with e; injection e with e1; subst e1; exact cell_lt hc')
      have hzk : 0 ≤ zs.getD k 0 ∧ zs.getD k 0 ≤ 47 := HZ.out _ (by rw [List.getD_eq_getElem?_getD, List.getElem?_eq_getElem (by rw [HL.out]; exact hlt)]; exact List.getElem_mem _)
      have HSt := Lib.hid (loadL_step ss ws zs k (by rw [HL.out]; exact hlt))
      generalize zs.getD k 0 = z at hc hzk HSt
      obtain ⟨zn, rfl⟩ : ∃ zn : Nat, z = zn := ⟨z.toNat, by omega⟩
      have HLk : Hid ((loadL ss ws (zs.take k)).length = k) := Lib.hid (by unfold loadL; rw [List.length_map, List.length_take, HL.out]; omega)
      have HRk : Hid (wr.ownsRow (w.heap.size + 2) 9 1 (.slice A' k c') k ((loadL ss ws (zs.take k)).map Value.string)) := Lib.hid (by have := HG.out; unfold GroS at this; rwa [HLk.out] at this)
      generalize loadL ss ws (zs.take k) = fl at HRk HSt HLk
      have HCk := Lib.hid (fun W hb => HC.out W hb zn (by omega))
      generalize readS ss ws (zn : Int) = s at HCk HSt
      have hi : (k : Int) < (tn : Int) := by omega
      have hi0 : (0 : Int) ≤ (k : Int) := by omega
      clear HG
      have f0 := X0.out.cell 0 rfl
      have f1 := X0.out.cell 1 rfl
      have HK : Hid (∀ W', Below (w.heap.size + 2) wr W' → W'.cell? ⟨w.heap.size, 0, none⟩ = some (.slice A n c) ∧ W'.cell? ⟨w.heap.size, 1, none⟩ = some (.slice C m d) ∧ W'.cell? ⟨w.heap.size + 1, 1, none⟩ = some (.slice (some ⟨tb, toff, none⟩) tn tc) ∧ W'.cell? ⟨tb, toff + k, none⟩ = some (.int .i64 (zn : Int))) := Lib.hid (fun W' hb => ⟨(hb.cell (by show w.heap.size < w.heap.size + 2; omega)).trans f0, (hb.cell (by show w.heap.size < w.heap.size + 2; omega)).trans f1, (hb.cell (by show w.heap.size + 1 < w.heap.size + 2; omega)).trans f3, (hb.cell (by show tb < w.heap.size + 2; have := HTB.out; omega)).trans hc⟩)
      have h6 : Below (w.heap.size + 2) wr wr.drew := (Below.refl _ _).drew
      have hbd : Below w.heap.size w wr.drew := hbw.drew
      go_wp2
      go_region_held3 (fun W' => W'.cell? ⟨w.heap.size, 0, none⟩ = some (.slice A n c) ∧ W'.cell? ⟨w.heap.size, 1, none⟩ = some (.slice C m d) ∧ W'.cell? ⟨w.heap.size + 1, 1, none⟩ = some (.slice (some ⟨tb, toff, none⟩) tn tc) ∧ W'.cell? ⟨tb, toff + k, none⟩ = some (.int .i64 (zn : Int)))
        (first | exact HK.out _ h6 | exact HK.out _ k1 | exact HK.out _ k2 | exact HK.out _ k4)
        (first
          | (go_at_call 92; refine (HCk.out wr.drew hbd).mono ?_; rintro e w1 ⟨rfl, hb1⟩; have k1 : Below (w.heap.size + 2) wr w1 := h6.trans (hb1.mono hsz); have k2 : Below (w.heap.size + 2) wr (w1.alloc (.cells #[.string s] 9)) := k1.trans ((alloc_below w1 _).mono (Nat.le_trans hsz hb1.size)); have HBa := Lib.hid (bt (bt ((Below.refl wr.heap.size wr).drew) hb1) (alloc_below w1 (.cells #[.string s] 9))))
          | (refine step_app_one rfl (.tmp 15) (.tmp 23) 23 9 rfl (.string ByteArray.empty) 1 16 elemStr Try.underlying23 (w.heap.size + 2) (.slice A' k c') k (fl.map Value.string) ?_ (rowv_below HRk.out HBa.out) w1.heap.size 1 ?_ [.string s] rfl ?_ ?_ ?_ ?_ ?_ ?_; simp [Act.eval]; simp [Act.eval]; (intro j u hj; match j, hj with | 0, hj => (simp at hj; subst hj; exact (Box.new w1 9 #[.string s]).cell 0 rfl)); (intro u hu; simp at hu; subst hu; rfl); (unfold maxLen; omega); omega; (exact Nat.le_trans hsz HBa.out.size); intro A2 c2 w4 hR4 hc4 hg4 hb4; have k4 : Below (w.heap.size + 2) wr w4 := k2.trans hb4))
      have HR4 := Lib.hid hR4
      have Y0 := Lib.hid (X0.out.below k4 (by omega))
      have Y1 := Lib.hid (X1.out.below k4 (by omega))
      have hbz : Below w.heap.size w w4 := hbw.trans (k4.mono (by omega))
      have hs4 : w.heap.size + 2 ≤ w4.heap.size := Nat.le_trans hsz k4.size
      clear hR4 hg4 hb4 k4 k1 k2 f0 f1 f3 hc hb1
      go_wp2
      go_roundw
      case rel => exact ⟨k + 1, A2, c2, by omega, by go_num, rfl, hbz, Y0, Y1, Lib.hid (by unfold GroS; rw [HSt.out, List.length_append, HLk.out, List.map_append]; exact HR4.out), hs4⟩
      case measure => simp [intOf]; omega
    · have ek : zs.take k = zs := List.take_of_length_le (by rw [HL.out]; omega)
      have HLk : Hid ((loadL ss ws zs).length = k) := Lib.hid (by unfold loadL; rw [List.length_map, HL.out]; omega)
      rw [ek] at HG
      clear ek
      go_wp2
      refine bodyPost_ret (v := .slice A' k c') (by simp [results, Try.results114, go_sem]) rfl ?_
      exact ⟨_, _, _, rfl, HLk, Lib.hid (HG.out.own (by omega)), hbw⟩

/-- The call hands back a []string of its own, and a code. -/
def GivesStrsCode (b : List ByteArray × Int) (w : World) (e : Ending) (w' : World) : Prop :=
  ∃ A n c, e = .returned (.tuple #[.slice A n c, .int .i64 b.2]) ∧ Hid (b.1.length = n) ∧ Hid (OwnS w' w.heap.size w'.heap.size A b.1) ∧ Below w.heap.size w w'
theorem OwnS.wide' {w : World} {lo hi lo' hi' : Nat} {A : Option Addr} {ss : List ByteArray} (h : OwnS w lo hi A ss) (h1 : lo' ≤ lo) (h2 : hi ≤ hi') : OwnS w lo' hi' A ss := by
  rcases h with e | ⟨b, m, f, e, p1, p2, hm, hr, hf⟩
  · exact .inl e
  · exact .inr ⟨b, m, f, e, by omega, by omega, hm, hr, hf⟩
/-- What LoadPages answers. -/
def loadOf (ss : List ByteArray) (ws : List (Int × ByteArray)) : List ByteArray × Int := if (newOf ss ws).c = 0 then (loadL ss ws (newOf ss ws).z, 0) else ([], (newOf ss ws).c)
theorem loadOf_len (ss : List ByteArray) (ws : List (Int × ByteArray)) : (loadOf ss ws).1.length ≤ 17 := by
  unfold loadOf
  split
  · unfold loadL; rw [List.length_map]; exact newOf_len ss ws
  · simp
theorem rd_good (t : ByteArray) (h : rdC t = 0) : (rdZ t).length = 17 ∧ ∀ z ∈ rdZ t, 2 ≤ z ∧ z ≤ 47 := by
  unfold rdC at h
  unfold rdZ
  split at h
  · omega
  · rename_i h1
    rw [if_neg h1]
    split at h
    · rename_i hb
      rw [if_pos hb]
      refine ⟨tabT_len _ _, fun z hz => ?_⟩
      unfold rdB at hb
      simp only [Bool.and_eq_true] at hb
      have hr := hb.2.2.2
      unfold rootB at hr
      simp only [Bool.and_eq_true, List.all_eq_true] at hr
      have := hr.1.2 z hz
      unfold pageB at this
      simpa using this
    · omega
theorem best_good (t : Nat → ByteArray) : ∀ k, (best t k).c = 0 → (best t k).z.length = 17 ∧ ∀ z ∈ (best t k).z, 2 ≤ z ∧ z ≤ 47
  | 0, h => by simp [best] at h
  | k + 1, h => by
    rw [best] at h ⊢
    split
    · rename_i hq
      exact rd_good _ hq.1
    · rename_i hq
      rw [if_neg hq] at h
      exact best_good t k h
theorem newOf_good (ss : List ByteArray) (ws : List (Int × ByteArray)) (h : (newOf ss ws).c = 0) : (newOf ss ws).z.length = 17 ∧ ∀ z ∈ (newOf ss ws).z, 2 ≤ z ∧ z ≤ 47 := by
  unfold newOf at h ⊢
  split at h
  · rename_i hok
    rw [if_pos hok]
    exact best_good _ 2 h
  · simp at h

set_option maxRecDepth 100000 in
set_option maxHeartbeats 2000000 in
theorem specLoad (A C : Option Addr) (n c m d : Nat) (ss : List ByteArray) (ws : List (Int × ByteArray)) (w : World) (hl : ss.length = n) (hm : ws.length = m) (hn : n ≤ maxLen) (hmm : m ≤ maxLen) (h : StrL w A ss) (g : WrL w C ws) (fs : FitS ss) (fw : FitW ws) :
    Calls Try.prog 61 #[.agg #[.slice A n c, .slice C m d]] w (GivesStrsCode (loadOf ss ws) w) := by
  have hb0 := alloc_below w (.cells #[.slice A n c, .slice C m d] 26)
  have X0 := Lib.hid (Box.new w 26 #[.slice A n c, .slice C m d])
  have HV := Lib.hid (specDiskOK A C n c m d ss ws _ hl hm hn hmm (h.below hb0) (g.below hb0) fs fw)
  have HN := Lib.hid (fun W (hb : Below w.heap.size w W) (hok : okDisk ss ws = true) => l02Newest A C n c m d ss ws W hl hm hok (h.below hb) (g.below hb))
  have HF := Lib.hid (show loadOf ss ws = if (newOf ss ws).c = 0 then (loadL ss ws (newOf ss ws).z, 0) else ([], (newOf ss ws).c) from rfl)
  have HLz := Lib.hid (newOf_len ss ws)
  have hcase := newOf_cases ss ws
  have HGd := Lib.hid (newOf_good ss ws)
  have HLd := Lib.hid (fun W (hb : Below w.heap.size w W) (hok : okDisk ss ws = true) (g' : Int) (T : Option Addr) (tn tc : Nat) (zs : List Int) (ht : zs.length = tn) (h17 : tn ≤ 17) (hz : ∀ z ∈ zs, 0 ≤ z ∧ z ≤ 47) (hT : IntL W T zs) => l02Load A C n c m d ss ws g' T tn tc zs W hl hm hok (h.below hb) (g.below hb) ht h17 hz hT)
  generalize loadOf ss ws = r at HF
  clear hl hm hn hmm h g fs fw
  rcases hcase with ⟨hok, hnew⟩ | ⟨hok, hnew, hcode⟩
  · rw [hok] at HV
    have HR : Hid (r = ([], 1)) := Lib.hid (by rw [HF.out, hnew]; rfl)
    clear hok hnew HN HF HLz HGd HLd
    go_enter Try.func61, Try.ntmps61
    go_wp2_with fail
    refine HV.out.mono ?_
    rintro e w1 ⟨rfl, hb1⟩
    go_wp2
    refine bodyPost_ret (v := .tuple #[.slice (some ⟨w1.heap.size, 0, none⟩) 0 0, .int .i64 1]) (by simp [results, Try.results61, go_sem]) rfl ?_
    rw [HR.out]
    exact ⟨_, _, _, rfl, Lib.hid rfl, Lib.hid (.inl rfl), bt (bt hb0 hb1) (alloc_below _ _)⟩
  · rw [hok] at HV
    have HNk := Lib.hid (fun W hb => HN.out W hb hok)
    rw [← hnew] at HNk
    have HLk := Lib.hid (fun W hb => HLd.out W hb hok)
    generalize newOf ss ws = b at HF HLz hcode HNk HGd
    have HCo := Lib.hid hcode
    clear hok hnew HN hcode HLd
    go_enter Try.func61, Try.ntmps61
    go_wp2_with fail
    refine HV.out.mono ?_
    rintro e w1 ⟨rfl, hb1⟩
    have Y0 := Lib.hid (X0.out.step hb1)
    have f0 := Y0.out.cell 0 rfl
    have f1 := Y0.out.cell 1 rfl
    have hb := bt hb0 hb1
    clear hb0 hb1
    go_wp2_with fail
    refine (HNk.out w1 hb).mono ?_
    rintro e w2 ⟨A2, n2, c2, rfl, L2, O2, hb2⟩
    have hb3 := bt (bt hb hb2) (alloc_below w2 (.cells #[.int .i64 b.g, .slice A2 n2 c2] 57))
    have O3 := Lib.hid (O2.out.below (alloc_below w2 (.cells #[.int .i64 b.g, .slice A2 n2 c2] 57)))
    have Y3 := Lib.hid (Y0.out.step (bt hb2 (alloc_below w2 (.cells #[.int .i64 b.g, .slice A2 n2 c2] 57))))
    clear f0 f1 hb hb2 HNk
    have f0 := Y3.out.cell 0 rfl
    have f1 := Y3.out.cell 1 rfl
    rcases HCo.out with ⟨hc, hs, hsl⟩ | ⟨hbz, hsl⟩
    · have hs' : ¬ slotOf b < 0 := by rw [hsl]; omega
      have HR : Hid (r = (loadL ss ws b.z, 0)) := Lib.hid (by rw [HF.out, if_pos hc])
      have HFr := Lib.hid (HLk.out _ hb3 b.g A2 n2 c2 b.z L2.out (by have := HLz.out; have := L2.out; omega) (fun z hz => by have := (HGd.out hc).2 z hz; omega) O3.out.reads)
      generalize loadL ss ws b.z = fz at HR HFr
      have HZ : Hid (w.heap.size ≤ (w2.alloc (.cells #[.int .i64 b.g, .slice A2 n2 c2] 57)).heap.size) := Lib.hid hb3.size
      generalize slotOf b = sl at hs' 
      clear hc hs hsl HF
      go_wp2_with fail
      refine HFr.out.mono ?_
      rintro e w4 ⟨A4, n4, c4, rfl, L4, O4, hb4⟩
      go_wp2
      refine bodyPost_ret (v := .tuple #[.slice A4 n4 c4, .int .i64 0]) (by simp [results, Try.results61, go_sem]) rfl ?_
      rw [HR.out]
      exact ⟨_, _, _, rfl, L4, Lib.hid (O4.out.wide' HZ.out (Nat.le_refl _)), bt hb3 hb4⟩
    · have hs' : slotOf b < 0 := by rw [hsl]; omega
      have HR : Hid (r = ([], 9)) := Lib.hid (by rw [HF.out, hbz]; rfl)
      generalize slotOf b = sl at hs' hsl
      clear hbz hsl HF
      go_wp2
      refine bodyPost_ret (v := .tuple #[.slice (some ⟨w2.heap.size + 1, 0, none⟩) 0 0, .int .i64 9]) (by simp [results, Try.results61, go_sem]) rfl ?_
      rw [HR.out]
      exact ⟨_, _, _, rfl, Lib.hid rfl, Lib.hid (.inl rfl), bt hb3 (alloc_below _ _)⟩
end Go.Proofs.Ytoogaaoknpfkoaa
