/- Contracts of both CrashDisk. -/
import Derived.Test.YtoogaaoknpfkoaaCrash
import Derived.Test.YtoogaaoknpfkoaaFlushDisk
namespace Go.Proofs.Ytoogaaoknpfkoaa
open Go.RowKit

def fateB (z : Int) : Bool := decide (0 ≤ z ∧ z ≤ 2)
def okF (fs : List Int) : Bool := fs.all fateB

set_option maxRecDepth 100000 in
theorem isFate (z : Int) (w : World) : Calls Try.prog 141 #[.int .i64 z] w fun e w' => e = .returned (.bool (fateB z)) ∧ w = w' := by
  go_enter Try.func141, Try.ntmps141
  go_wp2
  all_goals go_ret
  all_goals (refine ⟨ret_bool ?_, rfl⟩)
  all_goals (unfold fateB; rw [Bool.eq_iff_iff]; simp; try omega)
set_option maxRecDepth 100000 in
theorem l01In2 (z : Int) (w : World) : Calls Try.prog 91 #[.int .i64 z, .int .i64 0, .int .i64 2] w fun e w' => e = .returned (.bool (fateB z)) ∧ w = w' := by
  go_enter Try.func91, Try.ntmps91
  go_wp2
  all_goals go_ret
  all_goals (refine ⟨ret_bool ?_, rfl⟩)
  all_goals (unfold fateB; rw [Bool.eq_iff_iff]; simp; try omega)

set_option maxRecDepth 100000 in
set_option maxHeartbeats 1000000 in
theorem l01Fates (F : Option Addr) (nf cf : Nat) (fs : List Int) (w : World) (hf : fs.length = nf) (hnf : nf ≤ maxLen) (i : IntL w F fs) :
    Calls Try.prog 86 #[.slice F nf cf] w fun e w' => e = .returned (.bool (okF fs)) ∧ w = w' := by
  unfold maxLen at hnf
  have HN := Lib.hid hf
  have I := Lib.hid i
  clear hf i
  go_enter Try.func86, Try.ntmps86
  go_wp2
  go_loop [3] (fun q => ∃ k : Nat, k ≤ nf ∧ q = .int .i64 k ∧ Hid (okF fs = (fs.drop k).all fateB)) (fun q => nf - (intOf q).toNat)
  case atStart => exact ⟨0, Nat.zero_le _, rfl, Lib.hid rfl⟩
  case round =>
    obtain ⟨k, hk, rfl, HT⟩ := hrel
    by_cases hlt : k < nf
    · obtain ⟨b, off, rfl, hc⟩ := I.out k (by rw [HN.out]; exact hlt)
      have HS := Lib.hid (all_step fateB fs 0 k (by rw [HN.out]; exact hlt))
      generalize fs.getD k 0 = z at hc HS
      have hi : (k : Int) < (nf : Int) := by omega
      have HC := Lib.hid (fun W => l01In2 z W)
      by_cases hE : fateB z = true
      · go_wp2_with (first | (go_at_call 91; refine (HC.out _).mono ?_; rintro e w' ⟨rfl, rfl⟩))
        go_round
        case rel => exact ⟨k + 1, by omega, by go_num, Lib.hid (by rw [HT.out, HS.out, hE]; rfl)⟩
        case measure => simp [intOf]; omega
      · have hE' : fateB z = false := by simpa using hE
        clear hE
        go_wp2_with (first | (go_at_call 91; refine (HC.out _).mono ?_; rintro e w' ⟨rfl, rfl⟩))
        go_ret
        exact ⟨ret_bool (by rw [HT.out, HS.out, hE']; rfl), rfl⟩
    · go_wp2
      go_ret
      exact ⟨ret_bool (by rw [HT.out]; exact (all_end _ _ _ (by rw [HN.out]; omega)).symm), rfl⟩

set_option maxRecDepth 100000 in
set_option maxHeartbeats 2000000 in
theorem allFates (F : Option Addr) (nf cf : Nat) (fs : List Int) (w : World) (hf : fs.length = nf) (hnf : nf ≤ maxLen) (i : IntL w F fs) :
    Calls Try.prog 83 #[.slice F nf cf] w fun e w' => e = .returned (.bool (okF fs)) ∧ w = w' := by
  unfold maxLen at hnf
  have HN := Lib.hid hf
  have I := Lib.hid i
  clear hf i
  go_enter Try.func83, Try.ntmps83
  go_wp2
  go_loop [7] (fun q => ∃ k : Nat, k ≤ nf ∧ q = .int .i64 k ∧ Hid (okF fs = (fs.drop k).all fateB)) (fun q => nf - (intOf q).toNat)
  case atStart => exact ⟨0, Nat.zero_le _, rfl, Lib.hid rfl⟩
  case round =>
    obtain ⟨k, hk, rfl, HT⟩ := hrel
    by_cases hlt : k < nf
    · obtain ⟨b, off, rfl, hc⟩ := I.out k (by rw [HN.out]; exact hlt)
      have HS := Lib.hid (all_step fateB fs 0 k (by rw [HN.out]; exact hlt))
      generalize fs.getD k 0 = z at hc HS
      have hi : (k : Int) < (nf : Int) := by omega
      have HC := Lib.hid (fun W => isFate z W)
      by_cases hE : fateB z = true
      · go_wp2_with (first | (go_at_call 141; refine (HC.out _).mono ?_; rintro e w' ⟨rfl, rfl⟩))
        go_round
        case rel => exact ⟨k + 1, by omega, by go_num, Lib.hid (by rw [HT.out, HS.out, hE]; rfl)⟩
        case measure => simp [intOf]; omega
      · have hE' : fateB z = false := by simpa using hE
        clear hE
        go_wp2_with (first | (go_at_call 141; refine (HC.out _).mono ?_; rintro e w' ⟨rfl, rfl⟩))
        go_ret
        exact ⟨ret_bool (by rw [HT.out, HS.out, hE']; rfl), rfl⟩
    · go_wp2
      go_ret
      exact ⟨ret_bool (by rw [HT.out]; exact (all_end _ _ _ (by rw [HN.out]; omega)).symm), rfl⟩

def crashS (ss : List ByteArray) (ws : List (Int × ByteArray)) (fs : List Int) : List ByteArray :=
  if 4096 < fs.length then [] else if okDisk ss ws = true then (if okF fs = true then settleN ss ws fs ws.length else []) else []
def crashC (ss : List ByteArray) (ws : List (Int × ByteArray)) (fs : List Int) : Int :=
  if 4096 < fs.length then 2 else if okDisk ss ws = true then (if okF fs = true then 0 else 4) else 1
theorem crash_bound (ss : List ByteArray) (ws : List (Int × ByteArray)) (fs : List Int) (h : ss.length ≤ 1048576) : (crashS ss ws fs).length ≤ 1048577 ∧ ([] : List (Int × ByteArray)).length ≤ 1048577 := by
  refine ⟨?_, by simp⟩
  unfold crashS
  split
  · simp
  · split
    · split
      · rw [settleN_len]; omega
      · simp
    · simp

/-- A disk stored into the result's cell: the rows stay. -/
theorem own_stored {w w1 w2 : World} {A2 C2 : Option Addr} {n2 c2 m2 d2 : Nat} {rs : List ByteArray} (hb : Below w.heap.size w w1) (hy : w.heap.size + 1 < w1.heap.size) (S2 : OwnS w2 w1.heap.size w2.heap.size A2 rs) :
    OwnS ((w2.setCell ⟨w.heap.size + 1, 0, none⟩ (.slice A2 n2 c2)).setCell ⟨w.heap.size + 1, 1, none⟩ (.slice C2 m2 d2)) w.heap.size ((w2.setCell ⟨w.heap.size + 1, 0, none⟩ (.slice A2 n2 c2)).setCell ⟨w.heap.size + 1, 1, none⟩ (.slice C2 m2 d2)).heap.size A2 rs := by
  have e1 : (((w2.setCell ⟨w.heap.size + 1, 0, none⟩ (.slice A2 n2 c2)).setCell ⟨w.heap.size + 1, 1, none⟩ (.slice C2 m2 d2)).heap.size) = w2.heap.size := by simp [World.setCell]
  have k1 : Btw (w.heap.size + 1) (w.heap.size + 1 + 1) w2 ((w2.setCell ⟨w.heap.size + 1, 0, none⟩ (.slice A2 n2 c2)).setCell ⟨w.heap.size + 1, 1, none⟩ (.slice C2 m2 d2)) :=
    ((Btw.refl _ _ _).setCell (by show w.heap.size + 1 ≤ w.heap.size + 1; omega) (by show w.heap.size + 1 < w.heap.size + 1 + 1; omega) _).setCell (by show w.heap.size + 1 ≤ w.heap.size + 1; omega) (by show w.heap.size + 1 < w.heap.size + 1 + 1; omega) _
  rw [e1]
  exact (S2.btw k1 (.inr (by omega))).wide hb.size (Nat.le_refl _)
theorem below_stored {w w2 : World} {u v : Value} (hb : Below w.heap.size w w2) : Below w.heap.size w ((w2.setCell ⟨w.heap.size + 1, 0, none⟩ u).setCell ⟨w.heap.size + 1, 1, none⟩ v) :=
  (hb.setCell (by show w.heap.size ≤ w.heap.size + 1; omega) _).setCell (by show w.heap.size ≤ w.heap.size + 1; omega) _

set_option maxRecDepth 100000 in
set_option maxHeartbeats 2000000 in
theorem specCrash (A C F : Option Addr) (n c m d nf cf : Nat) (ss : List ByteArray) (ws : List (Int × ByteArray)) (zs : List Int) (w : World) (hl : ss.length = n) (hm : ws.length = m) (hn : n ≤ maxLen) (hmm : m ≤ maxLen) (h : StrL w A ss) (g : WrL w C ws) (fs : FitS ss) (fw : FitW ws) (hf : zs.length = nf) (hnf : nf ≤ maxLen) (i : IntL w F zs) :
    Calls Try.prog 28 #[.agg #[.slice A n c, .slice C m d], .slice F nf cf] w (GivesDiskCode (crashS ss ws zs) [] (crashC ss ws zs) w) := by
  obtain ⟨W0, hW0⟩ : ∃ W0, W0 = ((w.alloc (.cells #[.slice A n c, .slice C m d] 26)).alloc (.cells #[.slice none 0 0, .slice none 0 0] 26)) := ⟨_, rfl⟩
  have hb0 : Below w.heap.size w W0 := by rw [hW0]; exact ((Below.refl _ _).alloc (Nat.le_refl _) _).alloc (by simp) _
  have X0 : Box W0 w.heap.size 26 #[.slice A n c, .slice C m d] := by rw [hW0]; exact (Box.new _ _ _).alloc _
  have Y0 : Box W0 (w.heap.size + 1) 26 #[.slice none 0 0, .slice none 0 0] := by rw [hW0]; simpa using Box.new (w.alloc (.cells #[.slice A n c, .slice C m d] 26)) 26 #[.slice none 0 0, .slice none 0 0]
  have HC := Lib.hid (specDiskOK A C n c m d ss ws W0 hl hm hn hmm (h.below hb0) (g.below hb0) fs fw)
  have HFt := Lib.hid (fun W (hb : Below w.heap.size w W) => l01Fates F nf cf zs W hf hnf (i.below hb))
  have HX := Lib.hid (And.intro X0 Y0)
  have HW0 := Lib.hid hW0
  have HL := Lib.hid (And.intro hl (And.intro hm (And.intro hf hnf)))
  have HSt := Lib.hid (And.intro h (And.intro g i))
  unfold maxLen at hnf
  clear hl hm hn hmm h g fs fw X0 Y0 hW0 hf i
  by_cases hlong : 4096 < nf
  · have HV : Hid (crashS ss ws zs = [] ∧ crashC ss ws zs = 2) := Lib.hid (by unfold crashS crashC; rw [if_pos (by rw [HL.out.2.2.1]; exact hlong), if_pos (by rw [HL.out.2.2.1]; exact hlong)]; exact ⟨rfl, rfl⟩)
    have hlong' : (4096 : Int) < (nf : Int) := by omega
    rw [HV.out.1, HV.out.2]
    go_enter Try.func28, Try.ntmps28
    go_wp2
    refine bodyPost_ret (v := .tuple #[.agg #[.slice none 0 0, .slice none 0 0], .int .i64 2]) (by simp [results, Try.results28, go_sem]) rfl ?_
    exact gives_none (((Below.refl _ _).alloc (Nat.le_refl _) _).alloc (by simp) _)
  have hlong' : ¬ (4096 : Int) < (nf : Int) := by omega
  have HLg : Hid (¬ 4096 < zs.length) := Lib.hid (by rw [HL.out.2.2.1]; exact hlong)
  clear hlong
  by_cases hok : okDisk ss ws = true
  · have OK := Lib.hid (ok_of hok)
    have HO := Lib.hid hok
    clear hok
    by_cases hfz : okF zs = true
    · have HV : Hid (crashS ss ws zs = settleN ss ws zs m ∧ crashC ss ws zs = 0) := Lib.hid (by unfold crashS crashC; rw [if_neg HLg.out, if_neg HLg.out, if_pos HO.out, if_pos HO.out, if_pos hfz, if_pos hfz, HL.out.2.1]; exact ⟨rfl, rfl⟩)
      have HZ := Lib.hid hfz
      clear hfz
      rw [HV.out.1, HV.out.2]
      go_enter Try.func28, Try.ntmps28
      go_wp2_with fail
      rw [← HW0.out]
      refine HC.out.mono ?_
      rintro e w1 ⟨rfl, hb1⟩
      rw [HO.out]
      have hb2 := bt hb0 hb1
      have X1 := HX.out.1.step hb1
      have Y1 := Lib.hid (HX.out.2.step hb1)
      have f0 : w1.cell? ⟨w.heap.size, 0, none⟩ = some (.slice A n c) := X1.cell 0 rfl
      have f1 : w1.cell? ⟨w.heap.size, 1, none⟩ = some (.slice C m d) := X1.cell 1 rfl
      have HF := Lib.hid (l01Crash A C F n c m d nf cf ss ws zs w1 HL.out.1 HL.out.2.1 HL.out.2.2.1 HL.out.2.2.2 (HSt.out.1.below hb2) (HSt.out.2.1.below hb2) (HSt.out.2.2.below hb2) OK.out)
      have HFx := Lib.hid (HFt.out w1 hb2)
      clear X1 HC HX
      go_wp2_with fail
      refine HFx.out.mono ?_
      rintro e w1' ⟨rfl, rfl⟩
      rw [HZ.out]
      go_wp2_with fail
      refine HF.out.mono ?_
      rintro e w2 ⟨A2, n2, c2, C2, m2, d2, rfl, L2, M2, S2, R2, hb3⟩
      have Y2 := Y1.out.step hb3
      have g0 := Y2.cell 0 rfl
      have g1 := Y2.cell 1 rfl
      have g2 := Y2.frozen 0
      have g3 := Y2.frozen 1
      have HYl : Hid (w.heap.size + 1 < w1.heap.size) := Lib.hid Y1.out.lt
      clear Y2 f0 f1
      go_wp2
      refine bodyPost_ret (v := .tuple #[.agg #[.slice A2 n2 c2, .slice C2 m2 d2], .int .i64 0]) (by simp [results, Try.results28, go_sem, g0, g1]) rfl ?_
      exact ⟨_, _, _, _, _, _, rfl, L2, M2, Lib.hid (own_stored hb2 HYl.out S2.out), Lib.hid (.inl rfl), below_stored (bt hb2 hb3)⟩
    · have HV : Hid (crashS ss ws zs = [] ∧ crashC ss ws zs = 4) := Lib.hid (by unfold crashS crashC; rw [if_neg HLg.out, if_neg HLg.out, if_pos HO.out, if_pos HO.out, if_neg hfz, if_neg hfz]; exact ⟨rfl, rfl⟩)
      have hfz' : okF zs = false := by simpa using hfz
      have HZ := Lib.hid hfz'
      clear hfz hfz'
      rw [HV.out.1, HV.out.2]
      go_enter Try.func28, Try.ntmps28
      go_wp2_with fail
      rw [← HW0.out]
      refine HC.out.mono ?_
      rintro e w1 ⟨rfl, hb1⟩
      rw [HO.out]
      have hb2 := bt hb0 hb1
      have Y1 := HX.out.2.step hb1
      have HFx := Lib.hid (HFt.out w1 hb2)
      have g0 := Y1.cell 0 rfl
      have g1 := Y1.cell 1 rfl
      have g2 := Y1.frozen 0
      have g3 := Y1.frozen 1
      clear Y1
      go_wp2_with fail
      refine HFx.out.mono ?_
      rintro e w1' ⟨rfl, rfl⟩
      rw [HZ.out]
      go_wp2
      refine bodyPost_ret (v := .tuple #[.agg #[.slice none 0 0, .slice none 0 0], .int .i64 4]) (by simp [results, Try.results28, go_sem, g0, g1]) rfl ?_
      exact gives_none (below_stored hb2)
  · have HV : Hid (crashS ss ws zs = [] ∧ crashC ss ws zs = 1) := Lib.hid (by unfold crashS crashC; rw [if_neg HLg.out, if_neg HLg.out, if_neg hok, if_neg hok]; exact ⟨rfl, rfl⟩)
    have hok' : okDisk ss ws = false := by simpa using hok
    have HO := Lib.hid hok'
    clear hok hok'
    rw [HV.out.1, HV.out.2]
    go_enter Try.func28, Try.ntmps28
    go_wp2_with fail
    rw [← HW0.out]
    refine HC.out.mono ?_
    rintro e w1 ⟨rfl, hb1⟩
    rw [HO.out]
    have hb2 := bt hb0 hb1
    have Y1 := HX.out.2.step hb1
    have g0 := Y1.cell 0 rfl
    have g1 := Y1.cell 1 rfl
    have g2 := Y1.frozen 0
    have g3 := Y1.frozen 1
    clear Y1
    go_wp2
    refine bodyPost_ret (v := .tuple #[.agg #[.slice none 0 0, .slice none 0 0], .int .i64 1]) (by simp [results, Try.results28, go_sem, g0, g1]) rfl ?_
    exact gives_none (below_stored hb2)

theorem all_at {zs : List Int} (h : okF zs = true) (k : Nat) (hk : k < zs.length) : fateB (zs.getD k 0) = true := by
  unfold okF at h
  rw [List.all_eq_true] at h
  exact h _ (by rw [List.getD_eq_getElem?_getD, List.getElem?_eq_getElem hk]; exact List.getElem_mem _)

set_option maxRecDepth 100000 in
set_option maxHeartbeats 2000000 in
theorem implCrash (A C F : Option Addr) (n c m d nf cf : Nat) (ss : List ByteArray) (ws : List (Int × ByteArray)) (zs : List Int) (w : World) (hl : ss.length = n) (hm : ws.length = m) (hn : n ≤ maxLen) (hmm : m ≤ maxLen) (h : StrL w A ss) (g : WrL w C ws) (fs : FitS ss) (fw : FitW ws) (hf : zs.length = nf) (hnf : nf ≤ maxLen) (i : IntL w F zs) :
    Calls Try.prog 26 #[.agg #[.slice A n c, .slice C m d], .slice F nf cf] w (GivesDiskCode (crashS ss ws zs) [] (crashC ss ws zs) w) := by
  obtain ⟨W0, hW0⟩ : ∃ W0, W0 = ((w.alloc (.cells #[.slice A n c, .slice C m d] 26)).alloc (.cells #[.slice none 0 0, .slice none 0 0] 26)) := ⟨_, rfl⟩
  have hb0 : Below w.heap.size w W0 := by rw [hW0]; exact ((Below.refl _ _).alloc (Nat.le_refl _) _).alloc (by simp) _
  have X0 : Box W0 w.heap.size 26 #[.slice A n c, .slice C m d] := by rw [hW0]; exact (Box.new _ _ _).alloc _
  have Y0 : Box W0 (w.heap.size + 1) 26 #[.slice none 0 0, .slice none 0 0] := by rw [hW0]; simpa using Box.new (w.alloc (.cells #[.slice A n c, .slice C m d] 26)) 26 #[.slice none 0 0, .slice none 0 0]
  have HC := Lib.hid (diskValid A C n c m d ss ws W0 hl hm hn hmm (h.below hb0) (g.below hb0) fs fw)
  have HFt := Lib.hid (fun W (hb : Below w.heap.size w W) => allFates F nf cf zs W hf hnf (i.below hb))
  have HX := Lib.hid (And.intro X0 Y0)
  have HW0 := Lib.hid hW0
  have HL := Lib.hid (And.intro hl (And.intro hm (And.intro hf hnf)))
  have HSt := Lib.hid (And.intro h (And.intro g i))
  unfold maxLen at hnf
  clear hl hm hn hmm h g fs fw X0 Y0 hW0 hf i
  by_cases hlong : 4096 < nf
  · have HV : Hid (crashS ss ws zs = [] ∧ crashC ss ws zs = 2) := Lib.hid (by unfold crashS crashC; rw [if_pos (by rw [HL.out.2.2.1]; exact hlong), if_pos (by rw [HL.out.2.2.1]; exact hlong)]; exact ⟨rfl, rfl⟩)
    have hlong' : (4096 : Int) < (nf : Int) := by omega
    rw [HV.out.1, HV.out.2]
    go_enter Try.func26, Try.ntmps26
    go_wp2
    refine bodyPost_ret (v := .tuple #[.agg #[.slice none 0 0, .slice none 0 0], .int .i64 2]) (by simp [results, Try.results26, go_sem]) rfl ?_
    exact gives_none (((Below.refl _ _).alloc (Nat.le_refl _) _).alloc (by simp) _)
  have hlong' : ¬ (4096 : Int) < (nf : Int) := by omega
  have HLg : Hid (¬ 4096 < zs.length) := Lib.hid (by rw [HL.out.2.2.1]; exact hlong)
  clear hlong
  by_cases hok : okDisk ss ws = true
  · have OK := Lib.hid (ok_of hok)
    have HO := Lib.hid hok
    clear hok
    by_cases hfz : okF zs = true
    · have HV : Hid (crashS ss ws zs = settleN ss ws zs m ∧ crashC ss ws zs = 0) := Lib.hid (by unfold crashS crashC; rw [if_neg HLg.out, if_neg HLg.out, if_pos HO.out, if_pos HO.out, if_pos hfz, if_pos hfz, HL.out.2.1]; exact ⟨rfl, rfl⟩)
      have HZ := Lib.hid hfz
      clear hfz
      rw [HV.out.1, HV.out.2]
      go_enter Try.func26, Try.ntmps26
      go_wp2_with fail
      rw [← HW0.out]
      refine HC.out.mono ?_
      rintro e w1 ⟨rfl, hb1⟩
      rw [HO.out]
      have hb2 := bt hb0 hb1
      have X1 := HX.out.1.step hb1
      have Y1 := Lib.hid (HX.out.2.step hb1)
      have f0 : w1.cell? ⟨w.heap.size, 0, none⟩ = some (.slice A n c) := X1.cell 0 rfl
      have f1 : w1.cell? ⟨w.heap.size, 1, none⟩ = some (.slice C m d) := X1.cell 1 rfl
      have HF := Lib.hid (settle A C F n c m d nf cf ss ws zs w1 HL.out.1 HL.out.2.1 HL.out.2.2.1 HL.out.2.2.2 (HSt.out.1.below hb2) (HSt.out.2.1.below hb2) (HSt.out.2.2.below hb2) OK.out)
      have HFx := Lib.hid (HFt.out w1 hb2)
      clear X1 HC HX
      go_wp2_with fail
      refine HFx.out.mono ?_
      rintro e w1' ⟨rfl, rfl⟩
      rw [HZ.out]
      go_wp2_with fail
      refine HF.out.mono ?_
      rintro e w2 ⟨A2, n2, c2, C2, m2, d2, rfl, L2, M2, S2, R2, hb3⟩
      have Y2 := Y1.out.step hb3
      have g0 := Y2.cell 0 rfl
      have g1 := Y2.cell 1 rfl
      have g2 := Y2.frozen 0
      have g3 := Y2.frozen 1
      have HYl : Hid (w.heap.size + 1 < w1.heap.size) := Lib.hid Y1.out.lt
      clear Y2 f0 f1
      go_wp2
      refine bodyPost_ret (v := .tuple #[.agg #[.slice A2 n2 c2, .slice C2 m2 d2], .int .i64 0]) (by simp [results, Try.results26, go_sem, g0, g1]) rfl ?_
      exact ⟨_, _, _, _, _, _, rfl, L2, M2, Lib.hid (own_stored hb2 HYl.out S2.out), Lib.hid (.inl rfl), below_stored (bt hb2 hb3)⟩
    · have HV : Hid (crashS ss ws zs = [] ∧ crashC ss ws zs = 4) := Lib.hid (by unfold crashS crashC; rw [if_neg HLg.out, if_neg HLg.out, if_pos HO.out, if_pos HO.out, if_neg hfz, if_neg hfz]; exact ⟨rfl, rfl⟩)
      have hfz' : okF zs = false := by simpa using hfz
      have HZ := Lib.hid hfz'
      clear hfz hfz'
      rw [HV.out.1, HV.out.2]
      go_enter Try.func26, Try.ntmps26
      go_wp2_with fail
      rw [← HW0.out]
      refine HC.out.mono ?_
      rintro e w1 ⟨rfl, hb1⟩
      rw [HO.out]
      have hb2 := bt hb0 hb1
      have Y1 := HX.out.2.step hb1
      have HFx := Lib.hid (HFt.out w1 hb2)
      have g0 := Y1.cell 0 rfl
      have g1 := Y1.cell 1 rfl
      have g2 := Y1.frozen 0
      have g3 := Y1.frozen 1
      clear Y1
      go_wp2_with fail
      refine HFx.out.mono ?_
      rintro e w1' ⟨rfl, rfl⟩
      rw [HZ.out]
      go_wp2
      refine bodyPost_ret (v := .tuple #[.agg #[.slice none 0 0, .slice none 0 0], .int .i64 4]) (by simp [results, Try.results26, go_sem, g0, g1]) rfl ?_
      exact gives_none (below_stored hb2)
  · have HV : Hid (crashS ss ws zs = [] ∧ crashC ss ws zs = 1) := Lib.hid (by unfold crashS crashC; rw [if_neg HLg.out, if_neg HLg.out, if_neg hok, if_neg hok]; exact ⟨rfl, rfl⟩)
    have hok' : okDisk ss ws = false := by simpa using hok
    have HO := Lib.hid hok'
    clear hok hok'
    rw [HV.out.1, HV.out.2]
    go_enter Try.func26, Try.ntmps26
    go_wp2_with fail
    rw [← HW0.out]
    refine HC.out.mono ?_
    rintro e w1 ⟨rfl, hb1⟩
    rw [HO.out]
    have hb2 := bt hb0 hb1
    have Y1 := HX.out.2.step hb1
    have g0 := Y1.cell 0 rfl
    have g1 := Y1.cell 1 rfl
    have g2 := Y1.frozen 0
    have g3 := Y1.frozen 1
    clear Y1
    go_wp2
    refine bodyPost_ret (v := .tuple #[.agg #[.slice none 0 0, .slice none 0 0], .int .i64 1]) (by simp [results, Try.results26, go_sem, g0, g1]) rfl ?_
    exact gives_none (below_stored hb2)
end Go.Proofs.Ytoogaaoknpfkoaa
