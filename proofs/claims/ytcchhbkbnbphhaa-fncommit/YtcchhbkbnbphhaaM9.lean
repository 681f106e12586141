/- Texts of this claim, one behind the other: DiskMath2, FormatSpec, LoadImpl. -/
import Derived.Test.YtcchhbkbnbphhaaFormatImpl
import Derived.Deep.MidRow
import Derived.Test.YtcchhbkbnbphhaaSettle
import Derived.Test.YtcchhbkbnbphhaaM8
/- What Commit and CommitTorn leave of a disk that holds a root and its pages. Nothing here walks. -/
namespace Go.Proofs.Ytcchhbkbnbphhaa
open Go.RowKit

theorem bext {l m : List ByteArray} {n : Nat} (h1 : l.length = n) (h2 : m.length = n) (h : ∀ p, p < n → l.getD p ByteArray.empty = m.getD p ByteArray.empty) : l = m := by
  apply List.ext_getElem (by rw [h1, h2])
  intro i a b
  have := h i (by omega)
  rw [List.getD_eq_getElem?_getD, List.getD_eq_getElem?_getD, List.getElem?_eq_getElem a, List.getElem?_eq_getElem b] at this
  exact this
theorem diffN_zero (ps ld : List ByteArray) : ∀ k, ((diffN ps ld k).length = 0 ↔ ∀ p, p < k → ps.getD p ByteArray.empty = ld.getD p ByteArray.empty)
  | 0 => ⟨fun _ p hp => absurd hp (Nat.not_lt_zero _), fun _ => rfl⟩
  | k + 1 => by
    have ih := diffN_zero ps ld k
    unfold diffN
    split
    · rename_i e
      rw [ih]
      exact ⟨fun h p hp => by rcases Nat.lt_or_ge p k with q | q
                              · exact h p q
                              · rw [show p = k by omega]; exact e, fun h p hp => h p (by omega)⟩
    · rename_i e
      constructor
      · intro h; rw [List.length_append] at h; simp at h
      · intro h; exact absurd (h k (by omega)) e
theorem load_len (ss : List ByteArray) (z : List Int) : (loadL ss [] z).length = z.length := by unfold loadL; exact List.length_map _
theorem load_at (ss : List ByteArray) (z : List Int) (p : Nat) (h : p < z.length) : (loadL ss [] z).getD p ByteArray.empty = ss.getD (z.getD p 0).toNat ByteArray.empty := by
  unfold loadL
  rw [List.getD_eq_getElem?_getD, List.getElem?_map, List.getD_eq_getElem?_getD (l := z), List.getElem?_eq_getElem h]
  rfl
theorem FD.plan {ss ps : List ByteArray} {g : Int} {z : List Int} {sl : Int} (h : FD ss g z sl) (hg : g < 999999) (hl : ps.length = 17) (hps : ∀ s ∈ ps, s.size ≤ 100) :
    (loadL ss [] z = ps ∧ planOf ss ps = ([], 0)) ∨
    (loadL ss [] z ≠ ps ∧ ∃ wl z', planOf ss ps = (wl ++ [(1 - sl, rootTx (g + 1) z')], 0) ∧ 0 < wl.length ∧ wl.length ≤ 17 ∧ (∀ x ∈ wl, 2 ≤ x.1 ∧ x.1 ∉ z ∧ x.2.size ≤ 100) ∧ rootB (g + 1) z' = true ∧ loadL (settleN ss wl [1] wl.length) [] z' = ps) := by
  obtain ⟨r1, r2, r3, r4⟩ := rootB_all h.root
  obtain ⟨q1, q2⟩ := h.small
  have hfl := freeL_len z r2
  have P := plan_good (free := freeL z) (ps := ps) q1 r2 r3 r4 (freeL_in z) (frN_nodup z 46) (frN_not z 46) (by omega) hps 17 (Nat.le_refl _)
  have e0 := plan_eq z (freeL z) (loadL ss [] z) ps 17
  have hlen := planN_len z (freeL z) (loadL ss [] z) ps 17
  have hpl : planOf ss ps = if (diffN ps (loadL ss [] z) 17).length = 0 then ([], 0) else ((planN z (freeL z) (loadL ss [] z) ps 17).2 ++ [(1 - sl, rootTx (g + 1) (planN z (freeL z) (loadL ss [] z) ps 17).1)], 0) := by
    unfold planOf
    simp only [h.newest, ne_eq, not_true, if_false]
    rw [if_neg (by omega : ¬ g = 999999), e0]
  have hz := diffN_zero ps (loadL ss [] z) 17
  rw [hpl]
  by_cases hd : (diffN ps (loadL ss [] z) 17).length = 0
  · refine .inl ⟨(bext hl (by rw [load_len, r2]) (hz.1 hd)).symm, by rw [if_pos hd]⟩
  · refine .inr ⟨fun e => hd (hz.2 (fun p _ => by rw [e])), ?_⟩
    rw [if_neg hd]
    generalize planN z (freeL z) (loadL ss [] z) ps 17 = q at P hlen
    have low : ∀ p, p < 17 → 2 ≤ q.1.getD p 0 ∧ q.1.getD p 0 ≤ 47 := fun p hp => by
      rcases P.from_ p hp with k | ⟨i, hi, k⟩
      · exact r3 _ k
      · rw [k]; exact freeL_in z _ (getD_mem i (by have := P.few; omega))
    refine ⟨q.2, q.1, rfl, by omega, P.few, fun x hx => ?_, ?_, ?_⟩
    · obtain ⟨i, hi, rfl⟩ := List.getElem_of_mem hx
      have e1 := P.at_ i hi
      rw [List.getD_eq_getElem?_getD, List.getElem?_eq_getElem hi, Option.getD_some] at e1
      have m1 := getD_mem (l := freeL z) i (by have := P.few; omega)
      rw [e1]
      exact ⟨(freeL_in z _ m1).1, frN_not z 46 _ m1, P.small _ hx⟩
    · have hin : ∀ x ∈ q.1, 2 ≤ x ∧ x ≤ 47 := fun x hx => by
        obtain ⟨i, hi, rfl⟩ := List.getElem_of_mem hx
        have := low i (by rw [← P.len]; exact hi)
        rwa [List.getD_eq_getElem?_getD, List.getElem?_eq_getElem hi, Option.getD_some] at this
      have hnd : q.1.Nodup := List.pairwise_iff_getElem.2 fun i j hi hj hij => by
        have := P.diff i j (by rw [← P.len]; exact hi) (by rw [← P.len]; exact hj) (by omega)
        rwa [List.getD_eq_getElem?_getD, List.getD_eq_getElem?_getD, List.getElem?_eq_getElem hi, List.getElem?_eq_getElem hj] at this
      rw [rootB_yes (by omega) P.len]
      simp only [Bool.and_eq_true, decide_eq_true_eq, List.all_eq_true, pageB]
      exact ⟨hin, hnd⟩
    · refine bext (n := 17) (by rw [load_len, P.len]) hl fun p hp => ?_
      rw [load_at _ _ _ (by rw [P.len]; exact hp)]
      exact P.read p hp
theorem elder_text {g : Int} {old data : ByteArray} (h : Elder g old.data.toList) (hd : data.size = 46) : Elder g (tearOf old data).data.toList := by
  unfold tearOf
  have hx : (data.extract 0 (data.size / 2)).data.toList.length = 23 := by
    rw [show (data.extract 0 (data.size / 2)).data.toList.length = (data.extract 0 (data.size / 2)).size from rfl, extract_size]; omega
  split
  · left; rw [hx]; decide
  · rename_i hs
    rw [hd] at hs
    have ho : old.data.toList.length = old.size := rfl
    have hy : (old.extract (data.size / 2) old.size).data.toList = old.data.toList.drop 23 := by
      rw [ext_list, hd]
      exact List.take_of_length_le (by rw [List.length_drop, ho]; omega)
    have e : (data.extract 0 (data.size / 2) ++ old.extract (data.size / 2) old.size).data.toList = (data.extract 0 (data.size / 2)).data.toList ++ old.data.toList.drop 23 := by
      rw [← hy]; simp
    rw [e]
    rcases h with h | ⟨k, hk, q⟩
    · left; rw [List.length_append, hx, List.length_drop]; omega
    · by_cases hL : old.data.toList.length = 46
      · right
        refine ⟨k, hk, ?_⟩
        rw [List.drop_append, List.drop_eq_nil_of_le (by omega), hx, List.nil_append, List.drop_drop, ← q]
      · left; rw [List.length_append, hx, List.length_drop]; omega
theorem rootTx_46 {g : Int} {z : List Int} (h : rootB g z = true) : (rootTx g z).size = 46 := rootTx_size g z (rootB_all h).2.1
theorem FD.rootWrite {S : List ByteArray} {g : Int} {z z' : List Int} {sl : Int} (h : FD S g z sl) (hr : rootB (g + 1) z' = true) (fs : List Int) :
    (fateAt fs 0 = 1 → FD (settleN S [(1 - sl, rootTx (g + 1) z')] fs 1) (g + 1) z' (1 - sl) ∧ loadL (settleN S [(1 - sl, rootTx (g + 1) z')] fs 1) [] z' = loadL S [] z') ∧
    (fateAt fs 0 ≠ 1 → FD (settleN S [(1 - sl, rootTx (g + 1) z')] fs 1) g z sl ∧ loadL (settleN S [(1 - sl, rootTx (g + 1) z')] fs 1) [] z = loadL S [] z) := by
  obtain ⟨q1, q2⟩ := h.small
  have hs := h.slot
  have r46 := rootTx_46 hr
  have hz := (rootB_all h.root).2.2.1
  have hz' := (rootB_all hr).2.2.1
  have far : ∀ (v : ByteArray) (t : List Int), (∀ x ∈ t, 2 ≤ x ∧ x ≤ 47) → loadL (S.set (1 - sl).toNat v) [] t = loadL S [] t := fun v t ht => by
    unfold loadL
    refine List.map_congr_left fun a ha => ?_
    rw [readS_nil, readS_nil, bgetD_ne]
    have := ht a ha
    omega
  have sm : ∀ v : ByteArray, v.size ≤ 100 → okDisk (S.set (1 - sl).toNat v) [] = true := fun v hv => okDisk_of (by rw [List.length_set, q1]) fun s k => by
    rcases List.mem_or_eq_of_mem_set k with k | k
    · exact q2 s k
    · rw [k]; exact hv
  have e1 : settleN S [(1 - sl, rootTx (g + 1) z')] fs 1 = stepF fs 0 S (1 - sl, rootTx (g + 1) z') := rfl
  rw [e1]
  unfold stepF
  refine ⟨fun hf => ?_, fun hf => ?_⟩
  · rw [if_pos hf]
    refine ⟨⟨sm _ (by rw [r46]; omega), by omega, hr, bgetD_same _ _ _ (by rw [q1]; omega), ?_⟩, far _ _ hz'⟩
    rw [show (1 - (1 - sl)).toNat = sl.toNat by omega, bgetD_ne _ _ _ _ (by omega), h.main]
    right
    have hg := (rootB_all h.root).1
    exact ⟨g.toNat, by omega, (root_ends h.root).2⟩
  · rw [if_neg hf]
    split
    · have hold := getD_100 q2 (1 - sl).toNat
      refine ⟨⟨sm _ (tearOf_size _ _ hold (by rw [r46]; omega)), hs, h.root, by rw [bgetD_ne _ _ _ _ (by omega)]; exact h.main, ?_⟩, far _ _ hz⟩
      rw [bgetD_same _ _ _ (by rw [q1]; omega)]
      exact elder_text h.other r46
    · exact ⟨h, rfl⟩
theorem FD.up {ss : List ByteArray} {g : Int} {z : List Int} {sl : Int} (h : FD ss g z sl) : 1 ≤ g := (rootB_all h.root).1.1
theorem ask_ok {ss ps : List ByteArray} {g : Int} {z : List Int} {sl : Int} (h : FD ss g z sl) (hl : ps.length = 17) (hps : ∀ s ∈ ps, s.size ≤ 100) : askC ps ss [] = 0 := by
  have hp : pagesC ps = 0 := by
    unfold pagesC okSt
    rw [if_neg (by omega), if_neg (by omega), if_pos]
    simp only [List.all_eq_true, decide_eq_true_eq]
    exact hps
  unfold askC
  rw [hp, if_neg (by simp), if_pos ⟨h.ok, rfl⟩]
theorem FD.commit {ss ps : List ByteArray} {g : Int} {z : List Int} {sl : Int} (h : FD ss g z sl) (hg : g < 999999) (hl : ps.length = 17) (hps : ∀ s ∈ ps, s.size ≤ 100) :
    (loadL ss [] z = ps ∧ commitOf ss [] ps 100 = (ss, 0)) ∨
    (loadL ss [] z ≠ ps ∧ (commitOf ss [] ps 100).2 = 0 ∧ ∃ z', FD (commitOf ss [] ps 100).1 (g + 1) z' (1 - sl) ∧ loadL (commitOf ss [] ps 100).1 [] z' = ps) := by
  unfold commitOf
  rw [if_neg (by rw [ask_ok h hl hps]; simp), if_neg (by omega)]
  rcases h.plan hg hl hps with ⟨e, p⟩ | ⟨e, wl, z', p, w1, w2, w3, w4, w5⟩
  · refine .inl ⟨e, ?_⟩
    rw [p, if_neg (by simp), if_neg (by simp)]
    rfl
  · refine .inr ⟨e, ?_⟩
    have hL : (wl ++ [(1 - sl, rootTx (g + 1) z')]).length = wl.length + 1 := by simp
    rw [p, if_neg (by simp)]
    simp only
    rw [hL, if_neg (by omega), twoN_snoc]
    obtain ⟨S1, -⟩ := h.settle wl [1] wl.length (Nat.le_refl _) w3
    obtain ⟨T, L⟩ := (S1.rootWrite w4 [1]).1 rfl
    exact ⟨rfl, z', T, by rw [L, w5]⟩
theorem FD.budget {ss ps : List ByteArray} {g : Int} {z : List Int} {sl : Int} (h : FD ss g z sl) (hg : g < 999999) (hl : ps.length = 17) (hps : ∀ s ∈ ps, s.size ≤ 100) (u : Nat) (hu : u ≤ 1000) :
    ((commitOf ss [] ps u).2 = 0 ∧ ∃ g' z' sl', g' ≤ g + 1 ∧ FD (commitOf ss [] ps u).1 g' z' sl' ∧ loadL (commitOf ss [] ps u).1 [] z' = ps) ∨
    ((commitOf ss [] ps u).2 = 10 ∧ FD (commitOf ss [] ps u).1 g z sl ∧ loadL (commitOf ss [] ps u).1 [] z = loadL ss [] z) := by
  unfold commitOf
  rw [if_neg (by rw [ask_ok h hl hps]; simp), if_neg (by omega)]
  rcases h.plan hg hl hps with ⟨e, p⟩ | ⟨e, wl, z', p, w1, w2, w3, w4, w5⟩
  · refine .inl ?_
    rw [p, if_neg (by simp), if_neg (by simp)]
    exact ⟨rfl, g, z, sl, by omega, h, e⟩
  · have hL : (wl ++ [(1 - sl, rootTx (g + 1) z')]).length = wl.length + 1 := by simp
    rw [p, if_neg (by simp)]
    simp only
    rw [hL]
    by_cases hlt : (u : Int) < ((wl.length + 1 : Nat) : Int)
    · refine .inr ?_
      rw [if_pos hlt]
      have hk : u ≤ wl.length := by omega
      rw [show ((u : Int)).toNat = u from rfl, take_snoc _ _ _ hk]
      have ht : (wl.take u).length = u := by rw [List.length_take]; omega
      obtain ⟨S1, L1⟩ := h.settle (wl.take u) [1] u (by rw [ht]; exact Nat.le_refl _) (fun x hx => w3 x (List.mem_of_mem_take hx))
      exact ⟨rfl, S1, L1⟩
    · refine .inl ?_
      rw [if_neg hlt, twoN_snoc]
      obtain ⟨S1, -⟩ := h.settle wl [1] wl.length (Nat.le_refl _) w3
      obtain ⟨T, L⟩ := (S1.rootWrite w4 [1]).1 rfl
      exact ⟨rfl, g + 1, z', 1 - sl, Int.le_refl _, T, by rw [L, w5]⟩
theorem FD.torn {ss ps : List ByteArray} {g : Int} {z : List Int} {sl : Int} (h : FD ss g z sl) (hg : g < 999999) (hl : ps.length = 17) (hps : ∀ s ∈ ps, s.size ≤ 100) (ph : Nat) (fs : List Int) (hph : ph ≤ 2) (hfs : okF fs = true) (hfl : fs.length ≤ 4096) :
    (tornOf ss [] ps ph fs).2 = 0 ∧ ∃ g' z' sl', g' ≤ g + 1 ∧ FD (tornOf ss [] ps ph fs).1 g' z' sl' ∧
      ((ph ≠ 2 ∧ loadL (tornOf ss [] ps ph fs).1 [] z' = loadL ss [] z) ∨ (ph ≠ 0 ∧ loadL (tornOf ss [] ps ph fs).1 [] z' = ps)) := by
  have hfb : fateB (ph : Int) = true := by unfold fateB; simp; omega
  have hc : tornC (ph : Int) fs = 0 := by unfold tornC; rw [if_pos ⟨hfb, hfs⟩]
  unfold tornOf
  rw [if_neg (by omega), if_neg (by rw [ask_ok h hl hps]; simp), if_neg (by rw [hc]; simp)]
  rcases h.plan hg hl hps with ⟨e, p⟩ | ⟨e, wl, z', p, w1, w2, w3, w4, w5⟩
  · rw [p, if_neg (by simp)]
    have T : ∀ a b, twoN ss [] a b = ss := fun a b => twoN_nil ss a b
    simp only [List.dropLast_nil, List.length_nil, T]
    rw [show settleN ss [] fs 0 = ss from rfl]
    refine ⟨by split <;> (try split) <;> rfl, g, z, sl, by omega, by split <;> (try split) <;> exact h, ?_⟩
    have hX : (if (ph : Int) = 0 then (ss, (0 : Int)) else if (ph : Int) = 1 then (ss, 0) else (ss, 0)).1 = ss := by split <;> (try split) <;> rfl
    rw [hX]
    by_cases h2 : ph = 2
    · exact .inr ⟨by omega, e⟩
    · exact .inl ⟨h2, rfl⟩
  · rw [p, if_neg (by simp)]
    simp only
    rw [List.dropLast_concat, twoN_snoc, twoN_snoc]
    by_cases h0 : ph = 0
    · subst h0
      rw [if_pos (by decide : ((0 : Nat) : Int) = 0)]
      obtain ⟨S1, L1⟩ := h.settle wl fs wl.length (Nat.le_refl _) w3
      exact ⟨rfl, g, z, sl, by omega, S1, .inl ⟨by omega, L1⟩⟩
    · rw [if_neg (by omega)]
      obtain ⟨S1, L1⟩ := h.settle wl [1] wl.length (Nat.le_refl _) w3
      by_cases h1 : ph = 1
      · subst h1
        rw [if_pos (by decide : ((1 : Nat) : Int) = 1)]
        by_cases hf : fateAt fs 0 = 1
        · obtain ⟨T, L⟩ := (S1.rootWrite w4 fs).1 hf
          exact ⟨rfl, g + 1, z', 1 - sl, Int.le_refl _, T, .inr ⟨by omega, by rw [L, w5]⟩⟩
        · obtain ⟨T, L⟩ := (S1.rootWrite w4 fs).2 hf
          exact ⟨rfl, g, z, sl, by omega, T, .inl ⟨by omega, by rw [L, L1]⟩⟩
      · rw [if_neg (by omega)]
        obtain ⟨T, L⟩ := (S1.rootWrite w4 [1]).1 rfl
        exact ⟨rfl, g + 1, z', 1 - sl, Int.le_refl _, T, .inr ⟨by omega, by rw [L, w5]⟩⟩
theorem fmtN_at (ps : List ByteArray) (j : Nat) : ∀ k, k ≤ 17 → (fmtN ps k).getD j ByteArray.empty = if 2 ≤ j ∧ j < k + 2 then ps.getD (j - 2) ByteArray.empty else newSs.getD j ByteArray.empty
  | 0, _ => by rw [if_neg (by omega)]; rfl
  | k + 1, hk => by
    rw [fmtN]
    by_cases e : 2 + k = j
    · subst e
      rw [bgetD_same _ _ _ (by rw [fmtN_len]; omega), if_pos (by omega), show 2 + k - 2 = k by omega]
    · rw [bgetD_ne _ _ _ _ e, fmtN_at ps j k (by omega)]
      by_cases h : 2 ≤ j ∧ j < k + 2
      · rw [if_pos h, if_pos (by omega)]
      · rw [if_neg h, if_neg (by omega)]
theorem tab0_root : rootB 1 (tab0 17) = true := by
  rw [rootB_yes (by omega) (tab0_len 17)]; decide +kernel
theorem fmt_fd (ps : List ByteArray) (hl : ps.length = 17) (hps : ∀ s ∈ ps, s.size ≤ 100) : FD (fmtL ps) 1 (tab0 17) 0 ∧ loadL (fmtL ps) [] (tab0 17) = ps := by
  have e0 : ∀ j, 0 < j → (fmtL ps).getD j ByteArray.empty = (fmtN ps 17).getD j ByteArray.empty := fun j hj => by unfold fmtL; rw [bgetD_ne _ _ _ _ (by omega)]
  have e1 : (fmtL ps).getD 0 ByteArray.empty = rootTx 1 (tab0 17) := by unfold fmtL; rw [bgetD_same _ _ _ (by rw [fmtN_len]; omega)]
  have e2 : newSs.getD 1 ByteArray.empty = ByteArray.empty := by decide
  have sm : ∀ k, k ≤ 17 → ∀ s ∈ fmtN ps k, s.size ≤ 100 := by
    intro k
    induction k with
    | zero => intro _ s hs; exact (ok_new).small s hs
    | succ k ih =>
      intro hk s hs
      rw [fmtN] at hs
      rcases List.mem_or_eq_of_mem_set hs with h | h
      · exact ih (by omega) s h
      · rw [h]; exact getD_100 hps k
  refine ⟨⟨okDisk_of (fmtL_len ps) (fun s hs => ?_), .inl rfl, tab0_root, e1, ?_⟩, ?_⟩
  · unfold fmtL at hs
    rcases List.mem_or_eq_of_mem_set hs with h | h
    · exact sm 17 (Nat.le_refl _) s h
    · rw [h, rootTx_46 tab0_root]; omega
  · left
    rw [show (1 - (0 : Int)).toNat = 1 from rfl, e0 1 (by omega), fmtN_at ps 1 17 (Nat.le_refl _), if_neg (by omega), e2]
    decide
  · refine bext (n := 17) (by rw [load_len, tab0_len]) hl fun p hp => ?_
    rw [load_at _ _ _ (by rw [tab0_len]; exact hp), tab0_at p hp, show ((((2 + p : Nat) : Int)).toNat) = 2 + p by omega, e0 _ (by omega), fmtN_at ps _ 17 (Nat.le_refl _), if_pos (by omega), show 2 + p - 2 = p by omega]
end Go.Proofs.Ytcchhbkbnbphhaa

/- Contracts of l02Format and of spec.Format. -/
namespace Go.Proofs.Ytcchhbkbnbphhaa
open Go.RowKit

theorem RowS.since {w w' : World} {b n m B : Nat} {l : List ByteArray} (h : RowS w b n m l) (hb : Below B w w') (hB : b < B) : RowS w' b n m l := by
  obtain ⟨h1, h2, f, hr, hf⟩ := h
  exact ⟨h1, h2, f, row_below hb hr hB, hf⟩

set_option maxRecDepth 100000 in
set_option maxHeartbeats 4000000 in
theorem l02Format (A : Option Addr) (c : Nat) (ps : List ByteArray) (w : World) (hl : ps.length = 17) (h : StrL w A ps) :
    Calls Try.prog 53 #[.slice A 17 c] w (GivesDisk (fmtL ps) [] w) := by
  have hb0 := alloc_below w (.cells #[.slice none 0 0, .slice none 0 0] 26)
  have X0 := Lib.hid (Box.new w 26 #[.slice none 0 0, .slice none 0 0])
  have HFl := Lib.hid (show fmtL ps = (fmtN ps 17).set 0 (rootTx 1 (tab0 17)) from rfl)
  have HFn := Lib.hid (show ∀ k, fmtN ps (k + 1) = (fmtN ps k).set (2 + k) (ps.getD k ByteArray.empty) from fun k => rfl)
  have HF0 := Lib.hid (show fmtN ps 0 = newSs from rfl)
  have HFk := Lib.hid (fmtN_len ps)
  generalize fmtN ps = FN at HFl HFn HF0 HFk
  generalize fmtL ps = FL at HFl
  have H := Lib.hid h
  have HL := Lib.hid hl
  clear hl h
  go_enter Try.func53, Try.ntmps53
  go_wp2_with fail
  generalize w.alloc (.cells #[.slice none 0 0, .slice none 0 0] 26) = W0 at hb0 X0 ⊢
  refine (specNew W0).mono ?_
  rintro e w1 ⟨A1, n1, c1, C1, m1, d1, rfl, L1, M1, S1, R1, hb1⟩
  obtain rfl : 48 = n1 := by have := L1.out; rw [newSs_len] at this; exact this
  obtain ⟨gb, mm, rfl, hg1, hg2, HRS⟩ := ownS_row S1.out (by rw [newSs_len]; omega)
  rw [newSs_len] at HRS
  obtain ⟨W3, hW3⟩ : ∃ W3, W3 = ((w1.alloc (.cells #[.slice (some ⟨gb, 0, none⟩) 48 c1, .slice C1 m1 d1] 26)).alloc (.cells #[] 3)).alloc (.cells #[.int .i64 1, .slice (some ⟨w1.heap.size + 1, 0, none⟩) 0 0] 31) := ⟨_, rfl⟩
  have k3 : Below w1.heap.size w1 W3 := by rw [hW3]; exact bt (bt (alloc_below _ _) (alloc_below _ _)) (alloc_below _ _)
  have Y0 := Lib.hid (X0.out.step (bt hb1 k3))
  have XD : Hid (Box W3 w1.heap.size 26 #[.slice (some ⟨gb, 0, none⟩) 48 c1, .slice C1 m1 d1]) := Lib.hid (by rw [hW3]; exact ((Box.new _ _ _).alloc _).alloc _)
  have XE : Hid (Box W3 (w1.heap.size + 1) 3 #[]) := Lib.hid (by
    rw [hW3]; exact (by simpa using Box.new (w1.alloc (.cells #[.slice (some ⟨gb, 0, none⟩) 48 c1, .slice C1 m1 d1] 26)) 3 #[] : Box ((w1.alloc (.cells #[.slice (some ⟨gb, 0, none⟩) 48 c1, .slice C1 m1 d1] 26)).alloc (.cells #[] 3)) (w1.heap.size + 1) 3 #[]).alloc _)
  have XR : Hid (Box W3 (w1.heap.size + 1 + 1) 31 #[.int .i64 1, .slice (some ⟨w1.heap.size + 1, 0, none⟩) 0 0]) := Lib.hid (by rw [hW3]; simpa using Box.new ((w1.alloc (.cells #[.slice (some ⟨gb, 0, none⟩) 48 c1, .slice C1 m1 d1] 26)).alloc (.cells #[] 3)) 31 #[.int .i64 1, .slice (some ⟨w1.heap.size + 1, 0, none⟩) 0 0])
  have HR3 := Lib.hid (HRS.below k3)
  have hb3 : Below w.heap.size w W3 := bt (bt hb0 hb1) k3
  have HZ : Hid (w.heap.size < W0.heap.size ∧ W0.heap.size ≤ gb ∧ gb < w1.heap.size) := Lib.hid ⟨X0.out.lt, hg1, hg2⟩
  have hs3 : w1.heap.size + 3 ≤ W3.heap.size := by have := XR.out.lt; omega
  have HW3 := Lib.hid hW3
  clear hW3 k3 hb0 hb1 HRS X0 hg1 hg2 S1 L1
  go_wp2
  rw [← HW3.out]
  clear HW3
  go_loopw [5] (fun i wr => ∃ (k : Nat) (T : Option Addr) (tc : Nat), k ≤ 17 ∧ i = .int .i64 k ∧ Below w.heap.size w wr ∧ Hid (Box wr w.heap.size 26 #[.slice none 0 0, .slice none 0 0]) ∧ Hid (Box wr w1.heap.size 26 #[.slice (some ⟨gb, 0, none⟩) 48 c1, .slice C1 m1 d1]) ∧ Hid (Box wr (w1.heap.size + 1 + 1) 31 #[.int .i64 1, .slice T k tc]) ∧ Hid (RowS wr gb 48 mm (FN k)) ∧ Hid (GroI wr (w1.heap.size + 1) (.slice T k tc) (tab0 k)) ∧ w1.heap.size + 3 ≤ wr.heap.size) (fun i _ => 17 - (intOf i).toNat)
  case atStart => exact ⟨0, _, 0, by omega, rfl, hb3, Y0, XD, XR, by rw [HF0.out]; exact HR3, Lib.hid (rowv_empty (Nat.le_refl _) XE.out), hs3⟩
  case round =>
    clear hb3 Y0 XD XR XE HR3 hs3
    obtain ⟨k, T, tc, hk, rfl, hbw, Y0, XD, XR, HR, HG, hsz⟩ := hrel
    by_cases hlt : k < 17
    · obtain ⟨pb, poff, rfl, hc⟩ := (H.out.below hbw) k (by rw [HL.out]; exact hlt)
      have HFk1 := Lib.hid (HFn.out k)
      generalize ps.getD k ByteArray.empty = s at hc HFk1
      have hp48 : 2 + k < 48 := by omega
      have hcd := HR.out.cell hp48
      have hfr := HR.out.frozen (2 + k)
      have hne := HR.out.boxFar XD.out (by decide)
      have hne2 := HR.out.boxFar XR.out (by decide)
      have hne3 := HR.out.boxFar Y0.out (by decide)
      have f0 := XD.out.cell 0 rfl
      have HRs := Lib.hid ((HR.out.below (Below.refl _ _).drew).set hp48 s)
      have HXs := Lib.hid ((Y0.out.drew).far (p := ⟨gb, 2 + k, none⟩) (Ne.symm hne3) (.string s))
      have HDs := Lib.hid ((XD.out.drew).far (p := ⟨gb, 2 + k, none⟩) (Ne.symm hne) (.string s))
      have HTs := Lib.hid ((XR.out.drew).far (p := ⟨gb, 2 + k, none⟩) (Ne.symm hne2) (.string s))
      have HBs := Lib.hid (hbw.drew.setCell (p := ⟨gb, 2 + k, none⟩) (by show w.heap.size ≤ gb; have := HZ.out; omega) (.string s))
      have HRk : Hid ((wr.drew.setCell ⟨gb, 2 + k, none⟩ (.string s)).ownsRow (w1.heap.size + 1) 3 1 (.slice T k tc) k ((tab0 k).map (Value.int .i64))) := Lib.hid (by
        have := HG.out; unfold GroI at this; rw [tab0_len] at this
        exact rowv_set (show wr.drew.ownsRow _ _ _ _ _ _ from this) (p := ⟨gb, 2 + k, none⟩) (by show gb < w1.heap.size + 1; have := HZ.out; omega) _)
      have hs4 : w1.heap.size + 3 ≤ (wr.drew.setCell ⟨gb, 2 + k, none⟩ (.string s)).heap.size := by simpa [World.setCell] using hsz
      have HSw : Hid (w1.heap.size + 3 ≤ wr.heap.size) := Lib.hid hsz
      have HSt := Lib.hid (tab0_step k)
      have HLz := Lib.hid (tab0_len k)
      generalize tab0 k = zs at HRk HSt HLz
      rw [show ((2 + k : Nat) : Int) = 2 + (k : Int) by omega] at HSt
      have p4 : (2 + (k : Int)).toNat = 2 + k := by omega
      have p1 : (0 : Int) ≤ 2 + (k : Int) := by omega
      have p2 : 2 + (k : Int) < 48 := by omega
      have e1 : IntKind.i64.wrap (2 + (k : Int)) = 2 + (k : Int) := IntWalk.i64_in _ (by omega)
      generalize (FN k).getD (2 + k) ByteArray.empty = y at hcd
      have hi : (k : Int) < 17 := by omega
      have hi0 : (0 : Int) ≤ (k : Int) := by omega
      have f1 : (wr.setCell ⟨gb, 2 + k, none⟩ (.string s)).drew.cell? ⟨w1.heap.size + 1 + 1, 1, none⟩ = some (.slice T k tc) := HTs.out.cell 1 rfl
      have HBa : Hid (Below wr.heap.size (wr.drew.setCell ⟨gb, 2 + k, none⟩ (.string s)) ((wr.drew.setCell ⟨gb, 2 + k, none⟩ (.string s)).alloc (.cells #[.int .i64 (2 + (k : Int))] 3))) := Lib.hid (by have := alloc_below (wr.drew.setCell ⟨gb, 2 + k, none⟩ (.string s)) (.cells #[.int .i64 (2 + (k : Int))] 3); simpa [World.setCell] using this)
      have HSz : Hid ((wr.drew.setCell ⟨gb, 2 + k, none⟩ (.string s)).heap.size = wr.heap.size) := Lib.hid (by simp [World.setCell])
      have HOw := Lib.hid (rowv_below HRk.out (by have := HBa.out; rwa [← HSz.out] at this))
      have HNw : Hid (∀ i u, [Value.int .i64 (2 + (k : Int))][i]? = some u → ((wr.drew.setCell ⟨gb, 2 + k, none⟩ (.string s)).alloc (.cells #[.int .i64 (2 + (k : Int))] 3)).cell? ⟨wr.heap.size, i, none⟩ = some u) := Lib.hid (fun i u hi => by
        match i, hi with
        | 0, hi => simp at hi; subst hi; have := (Box.new (wr.drew.setCell ⟨gb, 2 + k, none⟩ (.string s)) 3 #[.int .i64 (2 + (k : Int))]).cell 0 rfl; rwa [HSz.out] at this)
      clear hne hne2 hne3 XD XR Y0 HR HG
      go_wp2
      go_still_tail 9, (by kernel_rfl)
      change wpList _ _ _ _ _ wr.drew
      go_wp2_with (at_builtin; refine wpList_app_one rfl (.tmp 23) (.tmp 26) 29 3 rfl (.int .i64 0) 1 8 elemInt Try.underlying29 (w1.heap.size + 1) (.slice T k tc) k (zs.map (Value.int .i64)) rfl ?hown wr.heap.size 1 rfl [.int .i64 (2 + (k : Int))] rfl ?hnews ?hone ?h63 ?hby ?hbase ?_)
      case hown => exact HOw.out
      case hnews => exact HNw.out
      case hone => intro u hu; simp at hu; subst hu; rfl
      case h63 => unfold maxLen; omega
      case hby => omega
      case hbase => clear e1; simp [World.setCell]; have := HSw.out; omega
      intro A2 c2 w2 hR2 hc2 hg2 hb2
      have hb2' : Below (w1.heap.size + 1) ((wr.drew.setCell ⟨gb, 2 + k, none⟩ (.string s)).alloc (.cells #[.int .i64 (2 + (k : Int))] 3)) w2 := hb2
      have hba' : Below (w1.heap.size + 1) (wr.drew.setCell ⟨gb, 2 + k, none⟩ (.string s)) ((wr.drew.setCell ⟨gb, 2 + k, none⟩ (.string s)).alloc (.cells #[.int .i64 (2 + (k : Int))] 3)) := HBa.out.mono (by have := HSw.out; clear e1; omega)
      have hbx := hba'.trans hb2'
      have HR2 := Lib.hid hR2
      have V0 := Lib.hid (HXs.out.below hbx (by have := HZ.out; omega))
      have VD := Lib.hid (HDs.out.below hbx (by omega))
      have VR := Lib.hid ((HTs.out.below HBa.out (by have := HSw.out; clear e1; omega)).grown HOw.out (by decide) hg2)
      have VS := Lib.hid (HRs.out.since hbx (by have := HZ.out; omega))
      have hbz : Below w.heap.size w w2 := HBs.out.trans (hbx.mono (by have := HZ.out; omega))
      have hs2 : w1.heap.size + 3 ≤ w2.heap.size := Nat.le_trans hs4 hbx.size
      have y0 := VR.out.cell 1 rfl
      have y1 := VR.out.frozen 1
      have HRs2 := Lib.hid (rowv_setBox HR2.out VR.out (by decide) 1 (.slice A2 (k + 1) c2))
      clear hR2 hb2 hb2' hba' hbx hg2 f1 f0 hc hcd hfr p1 p2 p4 e1
      go_wp2
      go_roundw
      case rel =>
        refine ⟨k + 1, A2, c2, by omega, by go_num, hbz.setCell (by show w.heap.size ≤ w1.heap.size + 1 + 1; have := HZ.out; omega) _, Lib.hid (V0.out.far (by show w.heap.size ≠ w1.heap.size + 1 + 1; have := HZ.out; omega) _), Lib.hid (VD.out.far (by show w1.heap.size ≠ w1.heap.size + 1 + 1; omega) _), Lib.hid (VR.out.set 1 _), Lib.hid ?_, Lib.hid ?_, by simpa [World.setCell] using hs2⟩
        · rw [HFk1.out]; exact VS.out.far (a := ⟨w1.heap.size + 1 + 1, 1, none⟩) (by show gb ≠ w1.heap.size + 1 + 1; have := HZ.out; omega) _
        · unfold GroI; rw [HSt.out, List.length_append, HLz.out, List.map_append]; exact HRs2.out
      case measure => simp [intOf]; omega
    · obtain rfl : k = 17 := by omega
      have HTx := Lib.hid (fun W hW => l02Text 1 T 17 tc (tab0 17) W (tab0_len _) (by omega) (by omega) tab0_in hW)
      have HFL := Lib.hid HFl.out
      generalize rootTx 1 (tab0 17) = rt at HTx HFL
      have hne := HR.out.boxFar XD.out (by decide)
      have hne2 := HR.out.boxFar XR.out (by decide)
      have hne3 := HR.out.boxFar Y0.out (by decide)
      have f0 := XD.out.cell 0 rfl
      have f1 := XR.out.cell 0 rfl
      have f2 := XR.out.cell 1 rfl
      have h6 : Below wr.heap.size wr wr.drew := (Below.refl _ _).drew
      have HIr := Lib.hid ((HG.out.own (lo := w1.heap.size) (by omega)).reads)
      have HK : Hid (∀ W', Below wr.heap.size wr W' → W'.cell? ⟨w1.heap.size, 0, none⟩ = some (.slice (some ⟨gb, 0, none⟩) 48 c1) ∧ W'.cell? ⟨w1.heap.size + 1 + 1, 0, none⟩ = some (.int .i64 1) ∧ W'.cell? ⟨w1.heap.size + 1 + 1, 1, none⟩ = some (.slice T 17 tc)) := Lib.hid (fun W' hb => ⟨(XD.out.step hb).cell 0 rfl, (XR.out.step hb).cell 0 rfl, (XR.out.step hb).cell 1 rfl⟩)
      have HK2 : Hid (∀ W', Below wr.heap.size wr W' → (W'.setCell ⟨gb, 0, none⟩ (.string rt)).cell? ⟨w1.heap.size, 0, none⟩ = some (.slice (some ⟨gb, 0, none⟩) 48 c1) ∧ (W'.setCell ⟨gb, 0, none⟩ (.string rt)).cell? ⟨w1.heap.size + 1 + 1, 0, none⟩ = some (.int .i64 1) ∧ (W'.setCell ⟨gb, 0, none⟩ (.string rt)).cell? ⟨w1.heap.size + 1 + 1, 1, none⟩ = some (.slice T 17 tc)) := Lib.hid (fun W' hb => ⟨((XD.out.step hb).far (p := ⟨gb, 0, none⟩) (Ne.symm hne) _).cell 0 rfl, ((XR.out.step hb).far (p := ⟨gb, 0, none⟩) (Ne.symm hne2) _).cell 0 rfl, ((XR.out.step hb).far (p := ⟨gb, 0, none⟩) (Ne.symm hne2) _).cell 1 rfl⟩)
      go_wp2
      go_region_held3 (fun W' => W'.cell? ⟨w1.heap.size, 0, none⟩ = some (.slice (some ⟨gb, 0, none⟩) 48 c1) ∧ W'.cell? ⟨w1.heap.size + 1 + 1, 0, none⟩ = some (.int .i64 1) ∧ W'.cell? ⟨w1.heap.size + 1 + 1, 1, none⟩ = some (.slice T 17 tc))
        (first | exact HK.out _ h6 | exact HK.out _ k5 | exact HK2.out _ k5)
        (first | (go_at_call 71; refine (HTx.out wr.drew ?_).mono ?_; exact HIr.out; rintro e w5 ⟨rfl, hb5⟩; have k5 := bt h6 hb5; have R5 := Lib.hid (HR.out.below k5); have z0 := R5.out.cell (p := 0) (by omega); have z1 := R5.out.frozen 0))
      have RS := Lib.hid (R5.out.set (p := 0) (by omega) rt)
      have V0 := Lib.hid ((Y0.out.step k5).far (p := ⟨gb, 0, none⟩) (Ne.symm hne3) (.string rt))
      have VD := Lib.hid ((XD.out.step k5).far (p := ⟨gb, 0, none⟩) (Ne.symm hne) (.string rt))
      have hbz : Below w.heap.size w (w5.setCell ⟨gb, 0, none⟩ (.string rt)) := (bt hbw k5).setCell (p := ⟨gb, 0, none⟩) (by show w.heap.size ≤ gb; have := HZ.out; omega) _
      have HGL : Hid (gb < (w5.setCell ⟨gb, 0, none⟩ (.string rt)).heap.size) := Lib.hid RS.out.lt
      generalize w5.setCell ⟨gb, 0, none⟩ (.string rt) = w6 at RS V0 VD hbz HGL ⊢
      have y0 := VD.out.cell 0 rfl
      have y1 := VD.out.cell 1 rfl
      have y2 := V0.out.cell 0 rfl
      have y3 := V0.out.cell 1 rfl
      have y4 := V0.out.frozen 0
      have y5 := V0.out.frozen 1
      clear f0 f1 f2 z0 z1 h6 HK HK2 hb5 k5
      go_wp2
      refine bodyPost_ret (v := .agg #[.slice (some ⟨gb, 0, none⟩) 48 c1, .slice C1 m1 d1]) (by simp [results, Try.results53, go_sem, y2, y3]) rfl ?_
      refine ⟨_, _, _, _, _, _, rfl, Lib.hid (by rw [HFL.out, List.length_set, HFk.out]), M1, Lib.hid ?_, Lib.hid (.inl rfl), below_st2 hbz (Nat.le_refl _) _ _⟩
      rw [HFL.out]
      refine ((RS.out.far (a := ⟨w.heap.size, 0, none⟩) hne3 _).far (a := ⟨w.heap.size, 1, none⟩) hne3 _).own (by have := HZ.out; omega) ?_
      have := HGL.out
      simpa [World.setCell] using this
end Go.Proofs.Ytcchhbkbnbphhaa

/- The contracts of Disk.load, of table[string].list and of impl.LoadPages. -/
namespace Go.Proofs.Ytcchhbkbnbphhaa
open Go.RowKit

theorem below_setCellsL {w0 w : World} {b : Nat} (h : Below w0.heap.size w0 w) (hb : w0.heap.size ≤ b) : ∀ (o : Nat) (cs : List Value), Below w0.heap.size w0 (w.setCells b o cs) := by
  intro o cs
  induction cs generalizing w o with
  | nil => exact h
  | cons v vs ih => exact ih (h.setCell (p := ⟨b, o, none⟩) hb v) (o + 1)
theorem results_cell {P : Program} {fn : Func} {tmps : Array Value} {w : World} {a : Nat} {t : TypeId} {p : Addr} {v : Value} (h : fn.results = #[.cell a t]) (hp : tmps.getD a undef = .pointer (some p)) (hv : (loadVar t p).run P w = .ok v w) : (results fn tmps).run P w = .ok v w := by
  unfold results
  rw [h]
  simp only [List.mapM_toArray, List.mapM_cons, List.mapM_nil, hp]
  simp [asAddr, hv]
theorem row17 {w : World} {b : Nat} {t : TypeId} (X : Box w b t #[.string ⟨#[]⟩, .string ⟨#[]⟩, .string ⟨#[]⟩, .string ⟨#[]⟩, .string ⟨#[]⟩, .string ⟨#[]⟩, .string ⟨#[]⟩, .string ⟨#[]⟩, .string ⟨#[]⟩, .string ⟨#[]⟩, .string ⟨#[]⟩, .string ⟨#[]⟩, .string ⟨#[]⟩, .string ⟨#[]⟩, .string ⟨#[]⟩, .string ⟨#[]⟩, .string ⟨#[]⟩]) : w.rowIs b t 17 (fun _ => .string ⟨#[]⟩) := by
  refine Box.row X _ (fun i hi => ?_)
  have e : (#[.string ⟨#[]⟩, .string ⟨#[]⟩, .string ⟨#[]⟩, .string ⟨#[]⟩, .string ⟨#[]⟩, .string ⟨#[]⟩, .string ⟨#[]⟩, .string ⟨#[]⟩, .string ⟨#[]⟩, .string ⟨#[]⟩, .string ⟨#[]⟩, .string ⟨#[]⟩, .string ⟨#[]⟩, .string ⟨#[]⟩, .string ⟨#[]⟩, .string ⟨#[]⟩, .string ⟨#[]⟩] : Array Value) = Array.replicate 17 (.string ⟨#[]⟩) := rfl
  rw [e] at hi ⊢
  rw [Array.getElem?_replicate, if_pos (by simpa using hi)]

set_option maxRecDepth 100000 in
set_option maxHeartbeats 4000000 in
theorem diskLoad (A C : Option Addr) (n c m d : Nat) (ss : List ByteArray) (ws : List (Int × ByteArray)) (g : Int) (T : Option Addr) (tc : Nat) (zs : List Int) (w : World) (hl : ss.length = n) (hm : ws.length = m) (hok : okDisk ss ws = true) (h : StrL w A ss) (hw : WrL w C ws) (ht : zs.length = 17) (hz : ∀ z ∈ zs, 0 ≤ z ∧ z ≤ 47) (hT : IntL w T zs) :
    Calls Try.prog 29 #[.agg #[.slice A n c, .slice C m d], .agg #[.int .i64 g, .slice T 17 tc]] w fun e w' => e = .returned (.agg ((loadL ss ws zs).map Value.string).toArray) ∧ Below w.heap.size w w' := by
  have hlen := okDisk_len hok
  have HC := Lib.hid (fun W (hb : Below w.heap.size w W) (k : Nat) (hk : k < 48) => content A C n c m d ss ws k W hl hm (by unfold maxLen; omega) (by unfold maxLen; omega) (h.below hb) (hw.below hb) (by omega))
  have HL := Lib.hid ht
  have HZ := Lib.hid hz
  have HT := Lib.hid hT
  clear hl hm hok h hw ht hz hT hlen
  obtain ⟨W0, hW0⟩ : ∃ W0, W0 = (((w.alloc (.cells #[.slice A n c, .slice C m d] 26)).alloc (.cells #[.int .i64 g, .slice T 17 tc] 31)).alloc (.cells #[.string ⟨#[]⟩, .string ⟨#[]⟩, .string ⟨#[]⟩, .string ⟨#[]⟩, .string ⟨#[]⟩, .string ⟨#[]⟩, .string ⟨#[]⟩, .string ⟨#[]⟩, .string ⟨#[]⟩, .string ⟨#[]⟩, .string ⟨#[]⟩, .string ⟨#[]⟩, .string ⟨#[]⟩, .string ⟨#[]⟩, .string ⟨#[]⟩, .string ⟨#[]⟩, .string ⟨#[]⟩] 56)).alloc (.cells #[.string ⟨#[]⟩, .string ⟨#[]⟩, .string ⟨#[]⟩, .string ⟨#[]⟩, .string ⟨#[]⟩, .string ⟨#[]⟩, .string ⟨#[]⟩, .string ⟨#[]⟩, .string ⟨#[]⟩, .string ⟨#[]⟩, .string ⟨#[]⟩, .string ⟨#[]⟩, .string ⟨#[]⟩, .string ⟨#[]⟩, .string ⟨#[]⟩, .string ⟨#[]⟩, .string ⟨#[]⟩] 56) := ⟨_, rfl⟩
  have hb0 : Below w.heap.size w W0 := by rw [hW0]; exact bt (bt (bt (alloc_below _ _) (alloc_below _ _)) (alloc_below _ _)) (alloc_below _ _)
  have X0 : Hid (Box W0 w.heap.size 26 #[.slice A n c, .slice C m d]) := Lib.hid (by rw [hW0]; exact (((Box.new _ _ _).alloc _).alloc _).alloc _)
  have X2 : Hid (Box W0 (w.heap.size + 1 + 1) 56 #[.string ⟨#[]⟩, .string ⟨#[]⟩, .string ⟨#[]⟩, .string ⟨#[]⟩, .string ⟨#[]⟩, .string ⟨#[]⟩, .string ⟨#[]⟩, .string ⟨#[]⟩, .string ⟨#[]⟩, .string ⟨#[]⟩, .string ⟨#[]⟩, .string ⟨#[]⟩, .string ⟨#[]⟩, .string ⟨#[]⟩, .string ⟨#[]⟩, .string ⟨#[]⟩, .string ⟨#[]⟩]) := Lib.hid (by
    rw [hW0]; exact (by simpa using Box.new ((w.alloc (.cells #[.slice A n c, .slice C m d] 26)).alloc (.cells #[.int .i64 g, .slice T 17 tc] 31)) 56 #[.string ⟨#[]⟩, .string ⟨#[]⟩, .string ⟨#[]⟩, .string ⟨#[]⟩, .string ⟨#[]⟩, .string ⟨#[]⟩, .string ⟨#[]⟩, .string ⟨#[]⟩, .string ⟨#[]⟩, .string ⟨#[]⟩, .string ⟨#[]⟩, .string ⟨#[]⟩, .string ⟨#[]⟩, .string ⟨#[]⟩, .string ⟨#[]⟩, .string ⟨#[]⟩, .string ⟨#[]⟩] : Box (((w.alloc (.cells #[.slice A n c, .slice C m d] 26)).alloc (.cells #[.int .i64 g, .slice T 17 tc] 31)).alloc (.cells #[.string ⟨#[]⟩, .string ⟨#[]⟩, .string ⟨#[]⟩, .string ⟨#[]⟩, .string ⟨#[]⟩, .string ⟨#[]⟩, .string ⟨#[]⟩, .string ⟨#[]⟩, .string ⟨#[]⟩, .string ⟨#[]⟩, .string ⟨#[]⟩, .string ⟨#[]⟩, .string ⟨#[]⟩, .string ⟨#[]⟩, .string ⟨#[]⟩, .string ⟨#[]⟩, .string ⟨#[]⟩] 56)) (w.heap.size + 1 + 1) 56 #[.string ⟨#[]⟩, .string ⟨#[]⟩, .string ⟨#[]⟩, .string ⟨#[]⟩, .string ⟨#[]⟩, .string ⟨#[]⟩, .string ⟨#[]⟩, .string ⟨#[]⟩, .string ⟨#[]⟩, .string ⟨#[]⟩, .string ⟨#[]⟩, .string ⟨#[]⟩, .string ⟨#[]⟩, .string ⟨#[]⟩, .string ⟨#[]⟩, .string ⟨#[]⟩, .string ⟨#[]⟩]).alloc _)
  have X3 : Hid (Box W0 (w.heap.size + 1 + 1 + 1) 56 #[.string ⟨#[]⟩, .string ⟨#[]⟩, .string ⟨#[]⟩, .string ⟨#[]⟩, .string ⟨#[]⟩, .string ⟨#[]⟩, .string ⟨#[]⟩, .string ⟨#[]⟩, .string ⟨#[]⟩, .string ⟨#[]⟩, .string ⟨#[]⟩, .string ⟨#[]⟩, .string ⟨#[]⟩, .string ⟨#[]⟩, .string ⟨#[]⟩, .string ⟨#[]⟩, .string ⟨#[]⟩]) := Lib.hid (by
    rw [hW0]; simpa using Box.new (((w.alloc (.cells #[.slice A n c, .slice C m d] 26)).alloc (.cells #[.int .i64 g, .slice T 17 tc] 31)).alloc (.cells #[.string ⟨#[]⟩, .string ⟨#[]⟩, .string ⟨#[]⟩, .string ⟨#[]⟩, .string ⟨#[]⟩, .string ⟨#[]⟩, .string ⟨#[]⟩, .string ⟨#[]⟩, .string ⟨#[]⟩, .string ⟨#[]⟩, .string ⟨#[]⟩, .string ⟨#[]⟩, .string ⟨#[]⟩, .string ⟨#[]⟩, .string ⟨#[]⟩, .string ⟨#[]⟩, .string ⟨#[]⟩] 56)) 56 #[.string ⟨#[]⟩, .string ⟨#[]⟩, .string ⟨#[]⟩, .string ⟨#[]⟩, .string ⟨#[]⟩, .string ⟨#[]⟩, .string ⟨#[]⟩, .string ⟨#[]⟩, .string ⟨#[]⟩, .string ⟨#[]⟩, .string ⟨#[]⟩, .string ⟨#[]⟩, .string ⟨#[]⟩, .string ⟨#[]⟩, .string ⟨#[]⟩, .string ⟨#[]⟩, .string ⟨#[]⟩])
  have R2 := Lib.hid (row17 X2.out)
  have R3 := Lib.hid (row17 X3.out)
  have HW0 := Lib.hid hW0
  clear hW0 X2 X3
  go_enter Try.func29, Try.ntmps29
  go_wp2
  rw [← HW0.out]
  clear HW0
  go_loopw [11] (fun i wr => ∃ k : Nat, k ≤ 17 ∧ i = .int .i64 k ∧ Below w.heap.size w wr ∧ Hid (Box wr w.heap.size 26 #[.slice A n c, .slice C m d]) ∧ Hid (wr.rowIs (w.heap.size + 1 + 1) 56 17 (fun _ => .string ⟨#[]⟩)) ∧ Hid (wr.rowIs (w.heap.size + 1 + 1 + 1) 56 17 (fun i => if i < k then .string ((loadL ss ws zs).getD i ByteArray.empty) else .string ⟨#[]⟩))) (fun i _ => 17 - (intOf i).toNat)
  case atStart => exact ⟨0, by omega, rfl, hb0, X0, R2, Lib.hid (R3.out.congr (fun i _ => by simp))⟩
  case round =>
    clear hb0 X0 R2 R3
    obtain ⟨k, hk, rfl, hbw, X0, R2, R3⟩ := hrel
    by_cases hlt : k < 17
    · obtain ⟨tb, toff, rfl, hc⟩ := (HT.out.below hbw) k (by rw [HL.out]; exact hlt)
      have hzk : 0 ≤ zs.getD k 0 ∧ zs.getD k 0 ≤ 47 := HZ.out _ (by rw [List.getD_eq_getElem?_getD, List.getElem?_eq_getElem (by rw [HL.out]; exact hlt)]; exact List.getElem_mem _)
      have HSt : Hid ((loadL ss ws zs).getD k ByteArray.empty = readS ss ws (zs.getD k 0)) := Lib.hid (by unfold loadL; rw [List.getD_eq_getElem?_getD, List.getElem?_map, List.getElem?_eq_getElem (by rw [HL.out]; exact hlt), List.getD_eq_getElem?_getD, List.getElem?_eq_getElem (by rw [HL.out]; exact hlt)]; rfl)
      generalize zs.getD k 0 = z at hc hzk HSt
      obtain ⟨zn, rfl⟩ : ∃ zn : Nat, z = zn := ⟨z.toNat, by omega⟩
      have HCk := Lib.hid (HC.out wr hbw zn (by omega))
      generalize readS ss ws (zn : Int) = s at HCk HSt
      have f0 := X0.out.cell 0 rfl
      have f1 := X0.out.cell 1 rfl
      have hi : (k : Int) < 17 := by omega
      go_wp2_with fail
      refine HCk.out.mono ?_
      rintro e w1 ⟨rfl, hb1⟩
      have Q3 := row_below hb1 R3.out R3.out.lt
      have Q2 := Lib.hid (row_below hb1 R2.out R2.out.lt)
      have Y0 := Lib.hid (X0.out.step hb1)
      have y0 := Q3.cell (i := k) hlt
      have y1 := Q3.frozen k
      simp only [Nat.lt_irrefl, if_false] at y0
      have HS3 := Lib.hid (Q3.set k (.string s))
      have hbz := bt hbw hb1
      clear f0 f1 hc Q3 R2 R3 X0
      go_wp2
      go_roundw
      case rel =>
        refine ⟨k + 1, by omega, by go_num, hbz.setCell (by show w.heap.size ≤ w.heap.size + 1 + 1 + 1; omega) _, Lib.hid (Y0.out.far (by show w.heap.size ≠ w.heap.size + 1 + 1 + 1; omega) _), Lib.hid (Q2.out.setOther (a := ⟨w.heap.size + 1 + 1 + 1, k, none⟩) (by show w.heap.size + 1 + 1 ≠ w.heap.size + 1 + 1 + 1; omega) _), Lib.hid (HS3.out.congr (fun i _ => ?_))⟩
        show (if i = k then Value.string s else if i < k then _ else _) = _
        by_cases e : i = k
        · subst e; rw [if_pos rfl, if_pos (by omega), HSt.out]
        · rw [if_neg e]
          by_cases e2 : i < k
          · rw [if_pos e2, if_pos (by omega)]
          · rw [if_neg e2, if_neg (by omega)]
      case measure => simp [intOf]; omega
    · obtain rfl : k = 17 := by omega
      have HLn : Hid (((loadL ss ws zs).map Value.string).length = 17) := Lib.hid (by rw [List.length_map]; unfold loadL; rw [List.length_map, HL.out])
      have HRg : Hid (wr.rangeAt (w.heap.size + 1 + 1 + 1) 0 ((loadL ss ws zs).map Value.string)) := Lib.hid (fun j v hj => by
        rw [List.getElem?_map] at hj
        have hj17 : j < 17 := by
          rcases Nat.lt_or_ge j 17 with q | q
          · exact q
          · rw [List.getElem?_eq_none (by have := HLn.out; rw [List.length_map] at this; omega)] at hj; cases hj
        have hlt' : j < (loadL ss ws zs).length := by have := HLn.out; rw [List.length_map] at this; omega
        rw [List.getElem?_eq_getElem hlt'] at hj
        injection hj with hj
        rw [Nat.zero_add, R3.out.cell hj17, if_pos hj17, ← hj, List.getD_eq_getElem?_getD, List.getElem?_eq_getElem hlt']; rfl)
      have HTh : Hid (wr.there (w.heap.size + 1 + 1) 0 17) := Lib.hid (fun j hj => by rw [Nat.zero_add, R2.out.cell hj, R2.out.frozen j]; exact ⟨rfl, rfl⟩)
      have HOn : Hid (∀ v ∈ (loadL ss ws zs).map Value.string, v.oneCell' = true) := Lib.hid (fun v hv => by obtain ⟨s, _, rfl⟩ := List.mem_map.1 hv; rfl)
      generalize hcs : (loadL ss ws zs).map Value.string = cs at HLn HRg HOn
      have HCs := Lib.hid hcs
      clear hcs
      have HRs := Lib.hid (World.rangeAt_setCells_same wr (w.heap.size + 1 + 1) 0 cs (by rw [HLn.out]; exact HTh.out))
      have hin : (Try.prog.info? 56).map (·.size) = some cs.length := by rw [HLn.out]; kernel_rfl
      have HIn := Lib.hid hin
      have HLd := Lib.hid (run_loadVar_mid (P := Try.prog) (wr.setCells (w.heap.size + 1 + 1) 0 cs) (w.heap.size + 1 + 1) 0 56 cs _ HRs.out Try.underlying56 rfl hin)
      clear hin R2 R3 X0
      go_wp2_with (first
        | (with_reducible refine wpList_load_mid rfl 56 (.tmp 5) rfl (w.heap.size + 1 + 1 + 1) 0 rfl cs _ HRg.out Try.underlying56 rfl HIn.out ?_)
        | (with_reducible refine wpList_store_mid rfl 56 (.tmp 4) (.tmp 22) rfl (w.heap.size + 1 + 1) 0 cs.toArray rfl rfl (by simpa [HLn.out] using HTh.out) (by simpa using HIn.out) (all_oneCell_toArray HOn.out) ?_))
      refine bodyPost_ret (v := .agg cs.toArray) (results_cell Try.results29 (by rfl) HLd.out) rfl ?_
      exact ⟨by rw [HCs.out], below_setCellsL hbw (by omega) 0 cs⟩

set_option maxRecDepth 100000 in
set_option maxHeartbeats 2000000 in
theorem tabList (rs : List ByteArray) (w : World) (hl : rs.length = 17) :
    Calls Try.prog 30 #[.agg (rs.map Value.string).toArray] w (GivesStrs rs w) := by
  have hmk : ∀ V : World, (Instr.makeSlice 23 (.int .i64 17) (.int .i64 17)).run Try.prog V = .ok (.slice (some ⟨V.heap.size, 0, none⟩) 17 17) (V.alloc (.cells (zS 17).toArray 9)) := fun V => makeS 17 (by omega) V
  have hb0 : Below w.heap.size w ((w.alloc (.cells (rs.map Value.string).toArray 56)).alloc (.cells (zS 17).toArray 9)) := bt (alloc_below _ _) (alloc_below _ _)
  have HL := Lib.hid hl
  have HN : Hid ((cellsS rs).length = 17) := Lib.hid (by rw [cellsS_len]; exact hl)
  have hg : Hid (((w.alloc (.cells (rs.map Value.string).toArray 56)).alloc (.cells (zS 17).toArray 9)).heap[w.heap.size + 1]? = some (.cells (zS 17).toArray 9 (0, 0))) := Lib.hid (by
    have := Box.new (w.alloc (.cells (rs.map Value.string).toArray 56)) 9 (zS 17).toArray
    rw [World.size_alloc] at this
    exact this)
  clear hl
  go_enter Try.func30, Try.ntmps30
  go_wp2_with (with_reducible refine wpList_copy_splice rfl (.tmp 5) (.tmp 6) 23 23 rfl 9 Try.underlying23 szStr _ _ 17 17 17 17 rfl rfl (w.heap.size + 1) 0 (zS 17) 9 hg.out (cellsS rs) ?h1 ?h2 ?h3 ?h4 w.heap.size w hb0 (by omega) ?_)
  case h1 => rw [HN.out]; simp
  case h2 => exact fun _ j v hv => by simpa [cellsS] using hv
  case h3 => rw [HN.out, zS_len]; omega
  case h4 => exact cellsS_one rs
  intro w2 hg2 hb2
  have HR : Hid (w2.rowIs (w.heap.size + 1) 9 17 (fun i => .string (rs.getD i ByteArray.empty))) := Lib.hid (by
    refine row_of_list HL.out ?_
    have := hg2.out
    rw [show splice (zS 17) 0 (cellsS rs) = rs.map Value.string from by
      unfold splice
      rw [HN.out, List.drop_of_length_le (by rw [zS_len]; omega)]; simp [cellsS]] at this
    exact this)
  clear hg2 hg hmk
  go_wp2
  go_ret
  exact ⟨_, _, _, rfl, HL, Lib.hid (.inr ⟨w.heap.size + 1, 17, _, rfl, by omega, HR.out.lt, by rw [HL.out]; omega, HR.out, fun i _ => rfl⟩), hb2⟩

set_option maxRecDepth 100000 in
set_option maxHeartbeats 2000000 in
theorem implLoad (A C : Option Addr) (n c m d : Nat) (ss : List ByteArray) (ws : List (Int × ByteArray)) (w : World) (hl : ss.length = n) (hm : ws.length = m) (hn : n ≤ maxLen) (hmm : m ≤ maxLen) (h : StrL w A ss) (g : WrL w C ws) (fs : FitS ss) (fw : FitW ws) :
    Calls Try.prog 10 #[.agg #[.slice A n c, .slice C m d]] w (GivesStrsCode (loadOf ss ws) w) := by
  have hb0 := alloc_below w (.cells #[.slice A n c, .slice C m d] 26)
  have X0 := Lib.hid (Box.new w 26 #[.slice A n c, .slice C m d])
  have HN := Lib.hid (implNewest A C n c m d ss ws _ hl hm hn hmm (h.below hb0) (g.below hb0) fs fw)
  have HF := Lib.hid (show loadOf ss ws = if (newOf ss ws).c = 0 then (loadL ss ws (newOf ss ws).z, 0) else ([], (newOf ss ws).c) from rfl)
  have HGd := Lib.hid (newOf_good ss ws)
  have HOk : Hid ((newOf ss ws).c = 0 → okDisk ss ws = true) := Lib.hid (fun q => by
    rcases newOf_cases ss ws with ⟨_, e⟩ | ⟨e, _⟩
    · rw [e] at q; simp at q
    · exact e)
  have HLd := Lib.hid (fun W (hb : Below w.heap.size w W) (hok : okDisk ss ws = true) (g' : Int) (T : Option Addr) (tc : Nat) (zs : List Int) (ht : zs.length = 17) (hz : ∀ z ∈ zs, 0 ≤ z ∧ z ≤ 47) (hT : IntL W T zs) => diskLoad A C n c m d ss ws g' T tc zs W hl hm hok (h.below hb) (g.below hb) ht hz hT)
  generalize newOf ss ws = b at HN HF HGd HOk
  generalize loadOf ss ws = r at HF
  clear hl hm hn hmm h g fs fw
  go_enter Try.func10, Try.ntmps10
  go_wp2_with fail
  refine HN.out.mono ?_
  rintro e w1 ⟨A1, n1, c1, rfl, L1, O1, hb1⟩
  have hb2 := bt (bt hb0 hb1) (alloc_below w1 (.cells #[.int .i64 b.g, .slice A1 n1 c1] 31))
  have Y0 := Lib.hid (X0.out.step (bt hb1 (alloc_below w1 (.cells #[.int .i64 b.g, .slice A1 n1 c1] 31))))
  have O2 := Lib.hid (O1.out.below (alloc_below w1 (.cells #[.int .i64 b.g, .slice A1 n1 c1] 31)))
  by_cases hc : b.c = 0
  · have hcb : (b.c != 0) = false := by simp [hc]
    have HR : Hid (r = (loadL ss ws b.z, 0)) := Lib.hid (by rw [HF.out, if_pos hc])
    have hgd := HGd.out hc
    obtain rfl : n1 = 17 := by have := L1.out; omega
    have HDl := Lib.hid (HLd.out _ hb2 (HOk.out hc) b.g A1 c1 b.z hgd.1 (fun z hz => by have := hgd.2 z hz; omega) O2.out.reads)
    have HTl := Lib.hid (fun W => tabList (loadL ss ws b.z) W (by unfold loadL; rw [List.length_map]; exact hgd.1))
    generalize loadL ss ws b.z = fz at HR HDl HTl
    have f0 := Y0.out.cell 0 rfl
    have f1 := Y0.out.cell 1 rfl
    clear hc hb0 hb1 hgd HLd HOk HGd HF HN
    go_wp2_with fail
    refine HDl.out.mono ?_
    rintro e w3 ⟨rfl, hb3⟩
    clear f0 f1
    go_wp2_with fail
    refine (HTl.out w3).mono ?_
    rintro e w4 ⟨A4, n4, c4, rfl, L4, O4, hb4⟩
    have HZ : Hid (w.heap.size ≤ w3.heap.size) := Lib.hid (bt hb2 hb3).size
    go_wp2
    refine bodyPost_ret (v := .tuple #[.slice A4 n4 c4, .int .i64 0]) (by simp [results, Try.results10, go_sem]) rfl ?_
    rw [HR.out]
    exact ⟨_, _, _, rfl, L4, Lib.hid (O4.out.wide' HZ.out (Nat.le_refl _)), bt (bt hb2 hb3) hb4⟩
  · have hcb : (b.c != 0) = true := by simp [hc]
    have HR : Hid (r = ([], b.c)) := Lib.hid (by rw [HF.out, if_neg hc])
    clear hc hb0 hb1
    go_wp2
    refine bodyPost_ret (v := .tuple #[.slice none 0 0, .int .i64 b.c]) (by simp [results, Try.results10, go_sem]) rfl ?_
    rw [HR.out]
    exact ⟨_, _, _, rfl, Lib.hid rfl, Lib.hid (.inl rfl), hb2⟩
end Go.Proofs.Ytcchhbkbnbphhaa
