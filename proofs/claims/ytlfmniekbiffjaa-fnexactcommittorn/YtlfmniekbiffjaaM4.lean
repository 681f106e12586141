/- Texts of this claim, one behind the other: TornAsk, CommitMath, CommitFacts, RegFacts, Clone, WriteImpl, OwnSpec, WriteSpec, Src, Draw, SrcMore, Some, Fates, NewDisk, SrcDisk, Lay, Split, AppFresh. -/
import Derived.Deep.RegionHeld3
import Derived.Laws.IdiomCopy
import Derived.OwnWalk
import Derived.Deep.RegionLaw
import Derived.StillTailTactics
import Derived.IntWalk
import Derived.Laws.BytesArg
import Derived.Laws.OwnMore
import Derived.Deep.RegionWith
import Derived.BigQuiet
import Derived.Laws.AppendOwn
import Derived.Test.YtlfmniekbiffjaaM3
/- spec.l02TornAsk. -/
namespace Go.Proofs.Ytlfmniekbiffjaa
open Go.RowKit

def tornC (ph : Int) (fs : List Int) : Int := if fateB ph = true ∧ okF fs = true then 0 else 4

set_option maxRecDepth 100000 in
set_option maxHeartbeats 1000000 in
theorem tornAsk (ph : Int) (F : Option Addr) (nf cf : Nat) (fs : List Int) (w : World) (hf : fs.length = nf) (hnf : nf ≤ maxLen) (i : IntL w F fs) :
    Calls Try.prog 54 #[.int .i64 ph, .slice F nf cf] w fun e w' => e = .returned (.int .i64 (tornC ph fs)) ∧ w = w' := by
  have H1 := Lib.hid (l01In2 ph w)
  have H2 := Lib.hid (l01Fates F nf cf fs w hf hnf i)
  have HT : Hid (tornC ph fs = if fateB ph = true ∧ okF fs = true then 0 else 4) := Lib.hid rfl
  generalize fateB ph = p at H1 HT
  generalize okF fs = q at H2 HT
  clear hf hnf i
  go_enter Try.func54, Try.ntmps54
  go_wp2_with fail
  refine H1.out.mono ?_
  rintro e w1 ⟨rfl, rfl⟩
  cases p
  · go_wp2
    go_ret
    exact ⟨by rw [HT.out]; rfl, rfl⟩
  · go_wp2_with fail
    refine H2.out.mono ?_
    rintro e w2 ⟨rfl, rfl⟩
    cases q
    · go_wp2
      go_ret
      exact ⟨by rw [HT.out]; rfl, rfl⟩
    · go_wp2
      go_ret
      exact ⟨by rw [HT.out]; rfl, rfl⟩
end Go.Proofs.Ytlfmniekbiffjaa

/- What Commit and CommitTorn answer. -/
namespace Go.Proofs.Ytlfmniekbiffjaa

/-- All but the last write, then the last, each flushed. -/
def twoN (ss : List ByteArray) (ls : List (Int × ByteArray)) (fs gs : List Int) : List ByteArray :=
  settleN (settleN ss ls.dropLast fs ls.dropLast.length) (ls.drop (ls.length - 1)) gs (ls.drop (ls.length - 1)).length
/-- What Commit answers: the sectors (none where the disk is empty) and the code. -/
def commitOf (ss : List ByteArray) (ws : List (Int × ByteArray)) (ps : List ByteArray) (bud : Int) : List ByteArray × Int :=
  if askC ps ss ws ≠ 0 then ([], askC ps ss ws) else if ¬ (0 ≤ bud ∧ bud ≤ 1000) then ([], 4) else
  if (planOf ss ps).2 ≠ 0 then (ss, (planOf ss ps).2) else
  if bud < ((planOf ss ps).1.length : Int) then (settleN ss ((planOf ss ps).1.take bud.toNat) [1] bud.toNat, 10) else
  (twoN ss (planOf ss ps).1 [1] [1], 0)
/-- What CommitTorn answers. -/
def tornOf (ss : List ByteArray) (ws : List (Int × ByteArray)) (ps : List ByteArray) (ph : Int) (fs : List Int) : List ByteArray × Int :=
  if 4096 < fs.length then ([], 2) else if askC ps ss ws ≠ 0 then ([], askC ps ss ws) else if tornC ph fs ≠ 0 then ([], tornC ph fs) else
  if (planOf ss ps).2 ≠ 0 then (ss, (planOf ss ps).2) else
  if ph = 0 then (settleN ss (planOf ss ps).1.dropLast fs (planOf ss ps).1.dropLast.length, 0) else
  if ph = 1 then (twoN ss (planOf ss ps).1 [1] fs, 0) else (twoN ss (planOf ss ps).1 [1] [1], 0)

theorem twoN_nil (ss : List ByteArray) (fs gs : List Int) : twoN ss [] fs gs = ss := rfl
theorem twoN_snoc (ss : List ByteArray) (wl : List (Int × ByteArray)) (x : Int × ByteArray) (fs gs : List Int) : twoN ss (wl ++ [x]) fs gs = settleN (settleN ss wl fs wl.length) [x] gs 1 := by
  have h : (wl ++ [x]).drop ((wl ++ [x]).length - 1) = [x] := by
    rw [List.length_append, List.length_singleton, Nat.add_sub_cancel, List.drop_append_of_le_length (Nat.le_refl _), List.drop_length]; rfl
  unfold twoN
  rw [h, List.dropLast_concat]; rfl
theorem take_snoc (wl : List (Int × ByteArray)) (x : Int × ByteArray) (k : Nat) (h : k ≤ wl.length) : (wl ++ [x]).take k = wl.take k := List.take_append_of_le_length h
end Go.Proofs.Ytlfmniekbiffjaa

/- Facts on a commit's writes: they fit the disk; parts of a list of writes. -/
namespace Go.Proofs.Ytlfmniekbiffjaa
open Go.RowKit

theorem rootTx_size (g : Int) (zs : List Int) (h : zs.length = 17) : (rootTx g zs).size = 46 := by
  unfold rootTx
  rw [bs_size, List.length_append, List.length_append, digs_len, tabTx_len, h]
theorem pagesC_17 {ps : List ByteArray} (h : pagesC ps = 0) : ps.length = 17 ∧ ∀ s ∈ ps, s.size ≤ 100 := by
  unfold pagesC at h
  split at h
  · cases h
  · split at h
    · cases h
    · split at h
      · rename_i h1 h2
        refine ⟨by omega, fun s hs => ?_⟩
        rw [List.all_eq_true] at h2
        have := h2 s hs
        unfold okSt at this
        simpa using this
      · cases h
theorem askC_zero {ps ss : List ByteArray} {ws : List (Int × ByteArray)} (h : askC ps ss ws = 0) : ps.length = 17 ∧ (∀ s ∈ ps, s.size ≤ 100) ∧ okDisk ss [] = true ∧ ws = [] := by
  unfold askC at h
  split at h
  · contradiction
  · rename_i hp
    split at h
    · rename_i h2
      have hp' : pagesC ps = 0 := by omega
      obtain rfl : ws = [] := List.eq_nil_of_length_eq_zero h2.2
      exact ⟨(pagesC_17 hp').1, (pagesC_17 hp').2, h2.1, rfl⟩
    · omega
theorem writesN_at (places free : List Int) (ps : List ByteArray) : ∀ i, ∀ x ∈ writesN places free ps i, ∃ j, j < i ∧ x = (free.getD j 0, ps.getD (places.getD j 0).toNat ByteArray.empty)
  | 0, x, h => by simp [writesN] at h
  | i + 1, x, h => by
    unfold writesN at h
    rcases List.mem_append.1 h with q | q
    · obtain ⟨j, hj, e⟩ := writesN_at places free ps i x q
      exact ⟨j, by omega, e⟩
    · rw [List.mem_singleton] at q
      exact ⟨i, by omega, q⟩
theorem getD_small' {l : List ByteArray} (h : ∀ s ∈ l, s.size ≤ 100) (p : Nat) : (l.getD p ByteArray.empty).size ≤ 100 := getD_small h p
/-- The plan's writes go to the disk. -/
theorem plan_ok {ss ps : List ByteArray} (hok : okDisk ss [] = true) (hp : ∀ s ∈ ps, s.size ≤ 100) : Ok ss (planOf ss ps).1 ∧ (planOf ss ps).1.length ≤ 18 := by
  have o := ok_of hok
  have nil : Ok ss ([] : List (Int × ByteArray)) := ⟨o.n48, by simp, o.small, by simp, by simp⟩
  unfold planOf
  by_cases hc : (best (fun k => readS ss [] k) 2).c = 0
  · have hg := best_good (fun k => readS ss [] k) 2 hc
    have hn := best_gen (fun k => readS ss [] k) 2 hc
    generalize best (fun k => readS ss [] k) 2 = b at hc hg hn
    simp only [hc, ne_eq, not_true_eq_false, if_false]
    split
    · exact ⟨nil, by simp⟩
    · split
      · exact ⟨nil, by simp⟩
      · have hd := diffN_len ps (loadL ss [] b.z) 17
        have hf := freeL_len b.z hg.1
        have hfi := freeL_in b.z
        generalize diffN ps (loadL ss [] b.z) 17 = pl at hd
        generalize freeL b.z = fr at hf hfi
        have hw := writesN_len pl fr ps pl.length
        refine ⟨⟨o.n48, ?_, o.small, fun x hx => ?_, fun x hx => ?_⟩, ?_⟩
        · rw [List.length_append, hw, List.length_singleton]; omega
        · rcases List.mem_append.1 hx with q | q
          · obtain ⟨j, hj, rfl⟩ := writesN_at _ _ _ _ x q
            exact getD_small hp _
          · rw [List.mem_singleton] at q
            subst q
            show (rootTx _ _).size ≤ 100
            rw [rootTx_size _ _ (by rw [withN_len]; exact hg.1)]; omega
        · rcases List.mem_append.1 hx with q | q
          · obtain ⟨j, hj, rfl⟩ := writesN_at _ _ _ _ x q
            have := getD_in (zs := fr) (i := j) (by omega) (P := fun z => 2 ≤ z ∧ z ≤ 47) hfi
            show 0 ≤ fr.getD j 0 ∧ fr.getD j 0 ≤ 47
            omega
          · rw [List.mem_singleton] at q
            subst q
            show 0 ≤ 1 - b.s ∧ 1 - b.s ≤ 47
            omega
        · rw [List.length_append, hw, List.length_singleton]; omega
  · rw [if_pos hc]
    exact ⟨nil, by simp⟩
theorem Ok.sub {ss : List ByteArray} {ls ms : List (Int × ByteArray)} (h : Ok ss ls) (hl : ms.length ≤ ls.length) (hs : ∀ x ∈ ms, x ∈ ls) : Ok ss ms := ⟨h.n48, Nat.le_trans hl h.m60, h.small, fun x hx => h.smallW x (hs x hx), fun x hx => h.at_ x (hs x hx)⟩
theorem Ok.take {ss : List ByteArray} {ls : List (Int × ByteArray)} (h : Ok ss ls) (k : Nat) : Ok ss (ls.take k) := h.sub (by rw [List.length_take]; omega) (fun _ hx => List.mem_of_mem_take hx)
theorem Ok.drop {ss : List ByteArray} {ls : List (Int × ByteArray)} (h : Ok ss ls) (k : Nat) : Ok ss (ls.drop k) := h.sub (by rw [List.length_drop]; omega) (fun _ hx => List.mem_of_mem_drop hx)
/-- What has been settled goes on as a disk. -/
theorem Ok.settled {ss : List ByteArray} {ls ms : List (Int × ByteArray)} (h : Ok ss ls) (fs : List Int) (g : Ok ss ms) : Ok (settleN ss ls fs ls.length) ms :=
  ⟨by rw [settleN_len]; exact h.n48, g.m60, settleN_small ss ls fs h.small h.smallW _ (Nat.le_refl _), g.smallW, g.at_⟩
theorem WrL.take {w : World} {A : Option Addr} {ws : List (Int × ByteArray)} (h : WrL w A ws) (k : Nat) : WrL w A (ws.take k) := fun i hi => by
  have hi' : i < k ∧ i < ws.length := by rw [List.length_take] at hi; omega
  obtain ⟨b, off, e, h1, h2⟩ := h i hi'.2
  refine ⟨b, off, e, ?_, ?_⟩ <;> rw [List.getD_eq_getElem?_getD, List.getElem?_take, if_pos hi'.1, ← List.getD_eq_getElem?_getD]
  · exact h1
  · exact h2
theorem WrL.drop {w : World} {b off : Nat} {ws : List (Int × ByteArray)} (h : WrL w (some ⟨b, off, none⟩) ws) (k : Nat) : WrL w (some ⟨b, off + k * 2, none⟩) (ws.drop k) := fun i hi => by
  have hi' : k + i < ws.length := by rw [List.length_drop] at hi; omega
  obtain ⟨b', off', e, h1, h2⟩ := h (k + i) hi'
  injection e with e
  injection e with e1 e2
  subst e1 e2
  refine ⟨b, off + k * 2, rfl, ?_, ?_⟩ <;> rw [List.getD_eq_getElem?_getD, List.getElem?_drop, ← List.getD_eq_getElem?_getD]
  · rw [← h1]; congr 2; omega
  · rw [← h2]; congr 2; omega
theorem dropLast_take (ls : List (Int × ByteArray)) : ls.dropLast = ls.take (ls.length - 1) := List.dropLast_eq_take
end Go.Proofs.Ytlfmniekbiffjaa

/- A region that draws its order, walked once by facts: each operation, once carried out, has its fact; a fact is kept by whatever comes behind it. -/
namespace Go.Proofs.Ytlfmniekbiffjaa
open Go.RowKit

/-- The slots that a fact looks at. -/
def mask (l : List Nat) (T : Array Value) : Nat → Value := fun s => if l.contains s then T.getD s undef else undef
/-- 'bef': what must have come up before an operation (closed under itself); 'sup': the slots of its fact; 'base': slots that the region leaves alone. -/
def regOk (ops : Array Oper) (sup bef : List (List Nat)) (base : List Nat) : Bool :=
  ((List.range ops.size).all fun i => match ops[i]? with
    | none => false
    | some o => o.guard.isNone && ((o.after.all fun e => decide (e.on < i)) && (((bef.getD i []).all fun j => o.after.any fun e => Region.binds .any e && (e.on == j || (bef.getD e.on []).contains j)) &&
        ((sup.getD i []).all fun s => (List.range ops.size).all fun j => (match ops[j]? with | some oj => oj.dst != some s | none => true) || ((j == i) || (bef.getD i []).contains j))))) &&
  (base.all fun s => (List.range ops.size).all fun j => match ops[j]? with | some oj => oj.dst != some s | none => true)

section
variable {P : Program} {ops : Array Oper} {Q : Exit → Act → World → Prop} {sup bef : List (List Nat)} {base : List Nat} {a : Act}

/-- What one operation owes. -/
def StepF (P : Program) (Q : Exit → Act → World → Prop) (sup bef : List (List Nat)) (base : List Nat) (a : Act) (C : World → Prop) (F : Nat → (Nat → Value) → World → Prop) (i : Nat) (o : Oper) : Prop :=
  ∀ (T : Array Value) (W : World), T.size = a.tmps.size → (∀ s ∈ base, T.getD s undef = a.tmps.getD s undef) → C W → (∀ j ∈ bef.getD i [], F j (mask (sup.getD j []) T) W) →
    ∀ K : Act → World → Prop, Shut (∀ v W', C W' → (∀ j t, j ≠ i → F j t W → F j t W') → F i (mask (sup.getD i []) (Act.put { a with tmps := T } o.dst v).tmps) W' → K (Act.put { a with tmps := T } o.dst v) W') →
      Oper.wp P o { a with tmps := T } W K Q
def StepsF (P : Program) (Q : Exit → Act → World → Prop) (sup bef : List (List Nat)) (base : List Nat) (a : Act) (C : World → Prop) (F : Nat → (Nat → Value) → World → Prop) : Nat → List Oper → Prop
  | _, [] => True
  | i, o :: l => StepF P Q sup bef base a C F i o ∧ StepsF P Q sup bef base a C F (i + 1) l
theorem StepsF.get {C : World → Prop} {F : Nat → (Nat → Value) → World → Prop} : ∀ {l : List Oper} {i : Nat}, StepsF P Q sup bef base a C F i l → ∀ j o, l[j]? = some o → StepF P Q sup bef base a C F (i + j) o
  | [], _, _, j, o, h => by simp at h
  | o' :: l, i, hs, 0, o, h => by simp at h; subst h; exact hs.1
  | o' :: l, i, hs, j + 1, o, h => by
    have := StepsF.get hs.2 j o (by simpa using h)
    rwa [show i + 1 + j = i + (j + 1) by omega] at this

structure InvF (ops : Array Oper) (sup bef : List (List Nat)) (base : List Nat) (a : Act) (C : World → Prop) (F : Nat → (Nat → Value) → World → Prop) (L : Array Bool) (T : Array Value) (W : World) : Prop where
  size : T.size = a.tmps.size
  same : ∀ s ∈ base, T.getD s undef = a.tmps.getD s undef
  c : C W
  lsz : L.size = ops.size
  down : ∀ i, L.getD i false = true → ∀ j ∈ bef.getD i [], L.getD j false = true
  fact : ∀ i, L.getD i false = true → F i (mask (sup.getD i []) T) W

theorem getD_set_bool (L : Array Bool) (i j : Nat) (hi : i < L.size) : (L.setIfInBounds i true).getD j false = if j = i then true else L.getD j false := by
  simp only [Array.getD_eq_getD_getElem?]
  rw [Array.getElem?_setIfInBounds]
  by_cases h : i = j
  · subst h; simp [hi]
  · rw [if_neg h, if_neg (fun q => h q.symm)]
theorem getD_set_val (T : Array Value) (d s : Nat) (v : Value) (h : s ≠ d) : (T.setIfInBounds d v).getD s undef = T.getD s undef := by
  simp only [Array.getD_eq_getD_getElem?]
  rw [Array.getElem?_setIfInBounds, if_neg (fun q => h q.symm)]

theorem regOk_spec (h : regOk ops sup bef base = true) :
    (∀ (i : Nat) (o : Oper), ops[i]? = some o → o.guard = none ∧ (∀ e ∈ o.after, e.on < i) ∧ (∀ j ∈ bef.getD i [], ∃ e ∈ o.after, Region.binds .any e = true ∧ (e.on = j ∨ j ∈ bef.getD e.on [])) ∧ (∀ s ∈ sup.getD i [], ∀ (j : Nat) (oj : Oper), ops[j]? = some oj → oj.dst = some s → j = i ∨ j ∈ bef.getD i [])) ∧
    (∀ s ∈ base, ∀ (j : Nat) (oj : Oper), ops[j]? = some oj → oj.dst ≠ some s) := by
  unfold regOk at h
  rw [Bool.and_eq_true, List.all_eq_true, List.all_eq_true] at h
  refine ⟨fun i o ho => ?_, fun s hs j oj hj hd => ?_⟩
  · have hi : i < ops.size := (Array.getElem?_eq_some_iff.1 ho).1
    have := h.1 i (List.mem_range.2 hi)
    rw [ho] at this
    simp only [Bool.and_eq_true, Array.all_eq_true_iff_forall_mem, List.all_eq_true, decide_eq_true_eq, Option.isNone_iff_eq_none] at this
    obtain ⟨h1, h2, h3, h4⟩ := this
    refine ⟨h1, h2, fun j hj => ?_, fun s hs j oj hoj hd => ?_⟩
    · have := h3 j hj
      obtain ⟨e, he, hb⟩ := Array.any_eq_true'.1 this
      simp only [Bool.and_eq_true, Bool.or_eq_true, beq_iff_eq, List.contains_iff_mem] at hb
      exact ⟨e, he, hb⟩
    · have hj : j < ops.size := (Array.getElem?_eq_some_iff.1 hoj).1
      have := h4 s hs j (List.mem_range.2 hj)
      rw [hoj] at this
      simp only [hd, Bool.or_eq_true, bne_self_eq_false, beq_iff_eq, List.contains_iff_mem] at this
      simpa using this
  · have hj' : j < ops.size := (Array.getElem?_eq_some_iff.1 hj).1
    have := List.all_eq_true.1 (h.2 s hs) j (List.mem_range.2 hj')
    rw [hj] at this
    simp [hd] at this

theorem ready_nil_all {L : Array Bool} (hL : L.size = ops.size) (hlow : ∀ (i : Nat) (o : Oper), ops[i]? = some o → ∀ e ∈ o.after, e.on < i) (h : Region.ready .any ops L = []) : ∀ i, i < ops.size → L.getD i false = true := by
  intro i
  induction i using Nat.strongRecOn with
  | ind i ih =>
    intro hi
    by_cases hl : L.getD i false = true
    · exact hl
    · exfalso
      have hm : i ∈ Region.ready .any ops L := mem_ready.2 ⟨by
        simp only [Array.getD_eq_getD_getElem?] at hl ⊢
        rw [Array.getElem?_eq_getElem (by omega)] at hl ⊢
        simpa using hl, ops[i], Array.getElem?_eq_getElem hi, fun e he _ => ih e.on (hlow i _ (Array.getElem?_eq_getElem hi) e he) (by have := hlow i _ (Array.getElem?_eq_getElem hi) e he; omega)⟩
      rw [h] at hm
      cases hm

theorem wpAny_facts (hok : regOk ops sup bef base = true) (C : World → Prop) (F : Nat → (Nat → Value) → World → Prop)
    (hstep : StepsF P Q sup bef base a C F 0 ops.toList)
    (hend : ∀ T W, T.size = a.tmps.size → (∀ s ∈ base, T.getD s undef = a.tmps.getD s undef) → C W → (∀ i, i < ops.size → F i (mask (sup.getD i []) T) W) → Q .normal { a with tmps := T } W) :
    ∀ (fuel : Nat) (L : Array Bool) (T : Array Value) (W : World), InvF ops sup bef base a C F L T W → (L.toList.count false ≤ fuel) → wpAny P .any ops Q fuel L { a with tmps := T } W := by
  obtain ⟨hops, hbase⟩ := regOk_spec hok
  have hlow := fun i o ho => (hops i o ho).2.1
  have fin : ∀ L T W, InvF ops sup bef base a C F L T W → Region.ready .any ops L = [] → Q .normal { a with tmps := T } W := fun L T W I hr => hend T W I.size I.same I.c (fun i hi => I.fact i (ready_nil_all I.lsz hlow hr i hi))
  intro fuel
  induction fuel with
  | zero =>
    intro L T W I hf
    have hr : Region.ready .any ops L = [] := by
      apply List.eq_nil_iff_forall_not_mem.2
      intro j hj
      obtain ⟨h1, o, ho, _⟩ := mem_ready.1 hj
      have hjl : j < L.size := by rw [I.lsz]; exact (Array.getElem?_eq_some_iff.1 ho).1
      have : false ∈ L.toList := by
        simp only [Array.getD_eq_getD_getElem?] at h1
        rw [Array.getElem?_eq_getElem hjl] at h1
        simp only [Option.getD_some] at h1
        rw [← h1]
        simp
      have := List.count_pos_iff.2 this
      omega
    exact ⟨hr, fin L T W I hr⟩
  | succ fuel ih =>
    intro L T W I hf
    refine ⟨fin L T W I, fun i hi => ?_⟩
    obtain ⟨h1, o, ho, hall⟩ := mem_ready.1 hi
    have hil : i < L.size := by rw [I.lsz]; exact (Array.getElem?_eq_some_iff.1 ho).1
    have hlf : L.getD i false = false := by
      simp only [Array.getD_eq_getD_getElem?] at h1 ⊢
      rw [Array.getElem?_eq_getElem hil] at h1 ⊢
      simpa using h1
    obtain ⟨hg, hlo, hbf, hsp⟩ := hops i o ho
    have hbef : ∀ j ∈ bef.getD i [], L.getD j false = true := fun j hj => by
      obtain ⟨e, he, hb, q⟩ := hbf j hj
      have he' := hall e he hb
      rcases q with rfl | q
      · exact he'
      · exact I.down e.on he' j q
    have hs : StepF P Q sup bef base a C F i o := by
      have := hstep.get i o (by simpa using ho)
      simpa using this
    refine wpOp_step ho (fun K' hK => ?_)
    rw [if_pos (by simp [Region.wanted, hg])]
    refine hs T W I.size I.same I.c (fun j hj => I.fact j (hbef j hj)) K' (fun v W' hc hkeep hnew => hK _ _ ?_)
    have hnotin : ∀ k, L.getD k false = true → k ≠ i := fun k hk e => by subst e; rw [hlf] at hk; cases hk
    have hput : (Act.put { a with tmps := T } o.dst v) = { a with tmps := (Act.put { a with tmps := T } o.dst v).tmps } := by
      unfold Act.put; cases o.dst <;> rfl
    have hslot : ∀ s, o.dst ≠ some s → (Act.put { a with tmps := T } o.dst v).tmps.getD s undef = T.getD s undef := fun s hd => by
      cases hdd : o.dst with
      | none => rfl
      | some d => exact getD_set_val T d s v (fun e => hd (by rw [hdd, e]))
    rw [hput]
    refine ih _ _ W' ⟨?_, ?_, hc, by simpa using I.lsz, ?_, ?_⟩ ?_
    · rw [← I.size]; cases hdd : o.dst <;> simp [Act.put]
    · intro s hsb
      rw [hslot s (hbase s hsb i o ho)]
      exact I.same s hsb
    · intro k hk j hj
      rw [getD_set_bool L i k hil] at hk
      rw [getD_set_bool L i j hil]
      by_cases hki : k = i
      · subst hki
        rw [hbef j hj]; simp
      · rw [if_neg hki] at hk
        rw [I.down k hk j hj]; simp
    · intro k hk
      rw [getD_set_bool L i k hil] at hk
      by_cases hki : k = i
      · subst hki; exact hnew
      · rw [if_neg hki] at hk
        have hF := hkeep k _ hki (I.fact k hk)
        have hmk : mask (sup.getD k []) (Act.put { a with tmps := T } o.dst v).tmps = mask (sup.getD k []) T := by
          funext s
          unfold mask
          by_cases hsup : s ∈ sup.getD k []
          · rw [if_pos (List.contains_iff_mem.2 hsup), if_pos (List.contains_iff_mem.2 hsup)]
            refine hslot s (fun hd => ?_)
            have hko : k < ops.size := by
              rw [← I.lsz]
              apply Classical.byContradiction
              intro hn
              simp only [Array.getD_eq_getD_getElem?] at hk
              rw [Array.getElem?_eq_none (by omega)] at hk
              cases hk
            rcases (hops k _ (Array.getElem?_eq_getElem hko)).2.2.2 s hsup i o ho hd with q | q
            · exact hki q.symm
            · have := I.down k hk i q
              rw [hlf] at this
              cases this
          · rw [if_neg (fun q => hsup (List.contains_iff_mem.1 q)), if_neg (fun q => hsup (List.contains_iff_mem.1 q))]
        rw [hmk]; exact hF
    · have hset : (L.setIfInBounds i true).toList = L.toList.set i true := by simp
      rw [hset]
      have hct : (L.toList.set i true).count false + 1 = L.toList.count false := by
        have hx : L.toList[i]'(by simpa using hil) = false := by
          simp only [Array.getD_eq_getD_getElem?] at hlf
          rw [Array.getElem?_eq_getElem hil] at hlf
          simpa using hlf
        rw [List.count_set (by simpa using hil)]
        have hpos : 0 < L.toList.count false := List.count_pos_iff.2 (by rw [← hx]; exact List.getElem_mem _)
        rw [hx]
        simp only [beq_self_eq_true, if_true, show (true == false) = false from rfl, Bool.false_eq_true, if_false]
        omega
      omega

/-- The law. -/
theorem wp_region_facts {id : Nat} {w : World} (hm : P.follows .mixedOrders = true) (sup bef : List (List Nat)) (base : List Nat) (hok : regOk ops sup bef base = true) (C : World → Prop) (F : Nat → (Nat → Value) → World → Prop) (hC : C w.drew)
    (hstep : StepsF P Q sup bef base a C F 0 ops.toList)
    (hend : ∀ T W, T.size = a.tmps.size → (∀ s ∈ base, T.getD s undef = a.tmps.getD s undef) → C W → (∀ i, i < ops.size → F i (mask (sup.getD i []) T) W) → Q .normal { a with tmps := T } W) :
    (Code.region id ops true).wp P Q a w := by
  refine wp_region_any hm ?_
  have := wpAny_facts hok C F hstep hend ops.size (Array.replicate ops.size false) a.tmps w.drew ⟨rfl, fun _ _ => rfl, hC, by simp, fun i hi => ?_, fun i hi => ?_⟩ (by simp)
  · exact this
  all_goals (
    exfalso
    simp only [Array.getD_eq_getD_getElem?] at hi
    rw [Array.getElem?_replicate] at hi
    split at hi <;> simp at hi)
end
end Go.Proofs.Ytlfmniekbiffjaa

/- The builtin copy at writes (two cells each); contract of clone. -/
namespace Go.Proofs.Ytlfmniekbiffjaa
open Go.RowKit

/-- The cells of a slice of writes. -/
def cellsW (ws : List (Int × ByteArray)) : List Value := ws.flatMap fun x => [.int .i64 x.1, .string x.2]
theorem cellsW_len (ws : List (Int × ByteArray)) : (cellsW ws).length = ws.length * 2 := by
  unfold cellsW
  induction ws with
  | nil => rfl
  | cons x r ih => rw [List.flatMap_cons, List.length_append, ih, List.length_cons]; simp; omega
theorem cellsW_at (ws : List (Int × ByteArray)) (i : Nat) (h : i < ws.length) : (cellsW ws)[i * 2]? = some (.int .i64 (ws.getD i (0, ByteArray.empty)).1) ∧ (cellsW ws)[i * 2 + 1]? = some (.string (ws.getD i (0, ByteArray.empty)).2) := by
  unfold cellsW
  induction ws generalizing i with
  | nil => simp at h
  | cons x r ih =>
    rw [List.flatMap_cons]
    cases i with
    | zero => simp
    | succ i =>
      have := ih i (by simpa using h)
      rw [show (i + 1) * 2 = i * 2 + 2 by omega, show i * 2 + 2 + 1 = (i * 2 + 1) + 2 by omega]
      rw [List.getElem?_append_right (by simp), List.getElem?_append_right (by simp)]
      simpa using this
theorem cellsW_one (ws : List (Int × ByteArray)) : ∀ v ∈ cellsW ws, v.oneCell' = true := fun v hv => by
  unfold cellsW at hv
  obtain ⟨x, _, hx⟩ := List.mem_flatMap.1 hv
  simp at hx
  rcases hx with rfl | rfl <;> rfl
theorem cellsW_get (ws : List (Int × ByteArray)) (j : Nat) (v : Value) (h : (cellsW ws)[j]? = some v) : j / 2 < ws.length ∧ (j % 2 = 0 → v = .int .i64 (ws.getD (j / 2) (0, ByteArray.empty)).1) ∧ (j % 2 = 1 → v = .string (ws.getD (j / 2) (0, ByteArray.empty)).2) := by
  have hj : j < ws.length * 2 := by have := (List.getElem?_eq_some_iff.1 h).1; rwa [cellsW_len] at this
  have hi : j / 2 < ws.length := by omega
  refine ⟨hi, fun e => ?_, fun e => ?_⟩
  · have := (cellsW_at ws (j / 2) hi).1
    rw [show j / 2 * 2 = j by omega, h] at this
    exact Option.some.inj this
  · have := (cellsW_at ws (j / 2) hi).2
    rw [show j / 2 * 2 + 1 = j by omega, h] at this
    exact Option.some.inj this
theorem WrL.src {w : World} {A : Option Addr} {ws : List (Int × ByteArray)} (h : WrL w A ws) (hp : 0 < ws.length) : ∃ ad, A = some ad ∧ ∀ j v, (cellsW ws)[j]? = some v → w.cell? (ad.add j) = some v := by
  obtain ⟨b, off, e, _⟩ := h 0 hp
  refine ⟨⟨b, off, none⟩, e, fun j v hj => ?_⟩
  obtain ⟨hi, e0, e1⟩ := cellsW_get ws j v hj
  obtain ⟨b', off', e', hc, hd⟩ := h (j / 2) hi
  rw [e] at e'
  injection e' with e'
  injection e' with q1 q2
  subst q1 q2
  have key : w.cell? ⟨b, off + j, none⟩ = some v := by
    have : j % 2 = 0 ∨ j % 2 = 1 := by omega
    rcases this with p | p
    · rw [e0 p, ← hc, show off + j / 2 * 2 = off + j by omega]
    · rw [e1 p, ← hd, show off + j / 2 * 2 + 1 = off + j by omega]
  rw [← key]
  unfold Addr.add
  by_cases h0 : j = 0
  · subst h0; simp
  · rw [if_neg h0]

theorem run_copy_wide {P : Program} (w : World) (dT sT ty elem : TypeId) (b o dLen dCap : Nat) (a : Addr) (sLen sCap size n : Nat) (cs : List Value)
    (hu : P.underlying dT = some (.slice elem)) (hs : (P.info? elem).map (·.size) = some size) (hn : Nat.min sLen dLen = n) (hcs : cs.length = n * size)
    (hsrc : ∀ j v, cs[j]? = some v → w.cell? (a.add j) = some v) (hc : ∀ j, j < cs.length → (w.cell? ⟨b, o + j, none⟩).isSome = true) (hf : ∀ j, j < cs.length → w.frozen? ⟨b, o + j, none⟩ = false) (h1 : ∀ v ∈ cs, v.oneCell' = true) :
    (Builtin.copy_ #[dT, sT] ty #[.slice (some ⟨b, o, none⟩) dLen dCap, .slice (some a) sLen sCap]).run P w = .ok (goInt n) (w.setCells b o cs) := by
  have hl := run_loadCells_list (P := P) w a cs hsrc
  have hst := run_storeCells_cells (P := P) b o cs 0 w (by simpa using hc) (by simpa using hf) h1
  cases hq : P.info? elem with
  | none => simp [hq] at hs
  | some i =>
    have hi : i.size = size := by simpa [hq] using hs
    rw [hcs] at hl
    simp [Builtin.copy_, run_underlying hu, Builtin.lenOf, Builtin.firstCells, sizeOf, typeInfo, hq, hi, hn, hl, hst]
theorem row_setCells {b : Nat} {t : TypeId} {m : Nat} : ∀ (vs : List Value) (o : Nat) (w : World) (f : Nat → Value), w.rowIs b t m f → (w.setCells b o vs).rowIs b t m (fun j => if o ≤ j ∧ j < o + vs.length then vs.getD (j - o) undef else f j)
  | [], o, _, f, h => h.congr (fun j _ => by rw [if_neg (by simp only [List.length_nil]; omega)])
  | v :: vs, o, w, f, h => by
    have := row_setCells vs (o + 1) (w.setCell ⟨b, o, none⟩ v) _ (h.set o v)
    refine this.congr (fun j _ => ?_)
    simp only [List.length_cons]
    by_cases e : j = o
    · subst e
      rw [if_neg (by omega), if_pos rfl, if_pos (by omega), Nat.sub_self]; rfl
    · by_cases e2 : o + 1 ≤ j ∧ j < o + 1 + vs.length
      · rw [if_pos e2, if_pos (by omega), show j - o = (j - (o + 1)) + 1 by omega]; rfl
      · rw [if_neg e2, if_neg e, if_neg (by omega)]
theorem below_setCells {B b : Nat} {a : World} (hB : B ≤ b) : ∀ (vs : List Value) (o : Nat) (w : World), Below B a w → Below B a (w.setCells b o vs)
  | [], _, _, h => h
  | v :: vs, o, _, h => below_setCells hB vs (o + 1) _ (h.setCell hB v)

set_option maxRecDepth 100000 in
theorem szW : (Try.prog.info? 87).map (·.size) = some 2 := by kernel_rfl

theorem fill_of_cells (ws : List (Int × ByteArray)) (j : Nat) (h : j < ws.length * 2) : (cellsW ws).getD j undef = fillW ws ws.length j := by
  obtain ⟨v, hv⟩ : ∃ v, (cellsW ws)[j]? = some v := ⟨_, List.getElem?_eq_getElem (by rw [cellsW_len]; exact h)⟩
  obtain ⟨_, e0, e1⟩ := cellsW_get ws j v hv
  rw [List.getD_eq_getElem?_getD, hv]
  show v = _
  unfold fillW
  rw [if_pos h]
  have : j % 2 = 0 ∨ j % 2 = 1 := by omega
  rcases this with p | p
  · rw [if_pos p, e0 p]
  · rw [if_neg (by omega), e1 p]

theorem run_copy_zero {P : Program} (w : World) (dT sT ty elem : TypeId) (d a : Option Addr) (dLen dCap sLen sCap size : Nat) (hu : P.underlying dT = some (.slice elem)) (hs : (P.info? elem).map (·.size) = some size) (hn : Nat.min sLen dLen = 0) :
    (Builtin.copy_ #[dT, sT] ty #[.slice d dLen dCap, .slice a sLen sCap]).run P w = .ok (goInt 0) w := by
  cases hq : P.info? elem with
  | none => simp [hq] at hs
  | some i =>
    have hl : ∀ (x : Addr), (loadCells x 0).run P w = .ok #[] w := fun x => by simpa using run_loadCells_list (P := P) w x [] (by simp)
    cases d <;> cases a <;> simp [Builtin.copy_, run_underlying hu, Builtin.lenOf, Builtin.firstCells, sizeOf, typeInfo, hq, hn, storeCells, hl]

/-- copy of n writes into a row of the call's own, just as long. -/
theorem wpList_copy_writes {P : Program} {w : World} {ops : Array Oper} {rest : List Oper} {o : Oper} {a : Act} {Q : Exit → Act → World → Prop} (hgd : o.guard = none) (d s : Operand) (dT sT : TypeId)
    (ho : o.op = .call { callee := .builtin .copy, args := #[d, s], argTypes := #[dT, sT] }) (elem : TypeId) (hu : P.underlying dT = some (.slice elem)) (hsz : (P.info? elem).map (·.size) = some 2)
    (g n : Nat) (sp : Option Addr) (sCap : Nat) (hd : a.eval d = .slice (some ⟨g, 0, none⟩) n n) (hs : a.eval s = .slice sp n sCap)
    (t : TypeId) (f : Nat → Value) (ws : List (Int × ByteArray)) (hl : ws.length = n) (hg : w.rowIs g t (n * 2) f) (hsrc : WrL w sp ws) (B : Nat) (w0 : World) (hb : Below B w0 w) (hBg : B ≤ g)
    (h : ∀ w', Hid (w'.rowIs g t (n * 2) (fillW ws n)) → Below B w0 w' → wpList P ops Q rest (a.put o.dst (goInt n)) w') :
    wpList P ops Q (o :: rest) a w := by
  refine wpList_plain hgd fun K hK => ?_
  subst hl
  by_cases h0 : ws.length = 0
  · have hrun := run_copy_zero (P := P) w dT sT o.type elem (some ⟨g, 0, none⟩) sp ws.length ws.length ws.length sCap 2 hu hsz (by rw [h0]; rfl)
    unfold Oper.wp
    simp [execOp, ho, resolve, invoke, builtin, hd, hs, hrun, Result.andThen]
    have := h w (show Hid _ from hg.congr (fun j hj => by omega)) hb
    rw [h0] at this
    exact hK _ _ this
  · obtain ⟨ad, rfl, hsr⟩ := hsrc.src (by omega)
    have hrun := run_copy_wide (P := P) w dT sT o.type elem g 0 ws.length ws.length ad ws.length sCap 2 ws.length (cellsW ws) hu hsz (by exact Nat.min_self _) (cellsW_len ws) hsr
      (fun j hj => by rw [Nat.zero_add, hg.cell (by rw [cellsW_len] at hj; exact hj)]; rfl) (fun j _ => by rw [Nat.zero_add]; exact hg.frozen j) (cellsW_one ws)
    unfold Oper.wp
    simp [execOp, ho, resolve, invoke, builtin, hd, hs, hrun, Result.andThen]
    refine hK _ _ (h _ (show Hid _ from (row_setCells (cellsW ws) 0 w f hg).congr (fun j hj => ?_)) (below_setCells hBg _ _ _ hb))
    rw [if_pos (by rw [cellsW_len]; omega), Nat.sub_zero]
    exact fill_of_cells ws j hj

set_option maxRecDepth 100000 in
set_option maxHeartbeats 2000000 in
theorem clone (A C : Option Addr) (n c m d : Nat) (ss : List ByteArray) (ws : List (Int × ByteArray)) (w : World) (hl : ss.length = n) (hm : ws.length = m) (hn : n ≤ 1048576) (hmm : m ≤ 1048576) (h : StrL w A ss) (g : WrL w C ws) :
    Calls Try.prog 46 #[.agg #[.slice A n c, .slice C m d]] w fun e w' => ∃ b b', e = .returned (.agg #[.slice (some ⟨b, 0, none⟩) n n, .slice (some ⟨b', 0, none⟩) m m]) ∧ Hid (w.heap.size + 1 < b ∧ w.heap.size + 1 < b' ∧ w'.rowIs b 9 n (fun i => .string (ss.getD i ByteArray.empty)) ∧ w'.rowIs b' 87 (m * 2) (fillW ws m)) ∧ Below w.heap.size w w' := by
  have hmk := make_writes m hmm
  obtain ⟨W0, hW0⟩ : ∃ W0, W0 = (((w.alloc (.cells #[.slice A n c, .slice C m d] 30)).alloc (.cells #[.slice none 0 0, .slice none 0 0] 30)).alloc (.cells (madeCells #[.int .i64 0, .string ByteArray.empty] (m * 2)) 87)) := ⟨_, rfl⟩
  have hb0 : Below w.heap.size w W0 := by rw [hW0]; exact (((Below.refl _ _).alloc (Nat.le_refl _) _).alloc (by simp) _).alloc (by simp; omega) _
  have X0 : Box W0 w.heap.size 30 #[.slice A n c, .slice C m d] := by rw [hW0]; exact ((Box.new _ _ _).alloc _).alloc _
  have Y0 : Box W0 (w.heap.size + 1) 30 #[.slice none 0 0, .slice none 0 0] := by rw [hW0]; simpa using (Box.new (w.alloc (.cells #[.slice A n c, .slice C m d] 30)) 30 #[.slice none 0 0, .slice none 0 0]).alloc (.cells (madeCells #[.int .i64 0, .string ByteArray.empty] (m * 2)) 87)
  have R0 : W0.rowIs (w.heap.size + 1 + 1) 87 (m * 2) (fun i => if i % 2 = 0 then .int .i64 0 else .string ByteArray.empty) := by
    have := row_made2 ((w.alloc (.cells #[.slice A n c, .slice C m d] 30)).alloc (.cells #[.slice none 0 0, .slice none 0 0] 30)) (.int .i64 0) (.string ByteArray.empty) m 87
    rw [← hW0, World.size_alloc, World.size_alloc] at this
    exact this
  have hwr := g.below hb0
  have hk0 : Below (w.heap.size + 1 + 1) W0 W0 := Below.refl _ _
  have HH := Lib.hid (And.intro R0 (And.intro hwr (And.intro hk0 (And.intro hm hl))))
  have HX := Lib.hid (And.intro X0 Y0)
  have HW0 := Lib.hid hW0
  have HSec := Lib.hid (fun W (hb : Below w.heap.size w W) => sectors A C n c m d ss W hl hn (h.below hb))
  clear hl hm h g R0 hwr X0 Y0 hW0 hk0
  go_enter Try.func46, Try.ntmps46
  go_wp2_with (with_reducible refine wpList_copy_writes rfl (.tmp 8) (.tmp 10) 28 28 rfl 87 Try.underlying28 szW (w.heap.size + 1 + 1) m _ d rfl rfl 87 (fun i => if i % 2 = 0 then .int .i64 0 else .string ByteArray.empty) ws HH.out.2.2.2.1 ?h1 ?h2 (w.heap.size + 1 + 1) W0 ?h3 (Nat.le_refl _) ?_)
  case h1 => rw [← HW0.out]; exact HH.out.1
  case h2 => rw [← HW0.out]; exact HH.out.2.1
  case h3 => rw [← HW0.out]; exact HH.out.2.2.1
  intro w1 R1 hb1
  have X1 := HX.out.1.below hb1 (by omega)
  have Y1 := Lib.hid (HX.out.2.below hb1 (by omega))
  have hb1' : Below w.heap.size w w1 := hb0.trans (hb1.mono (by omega))
  have f0 : w1.cell? ⟨w.heap.size, 0, none⟩ = some (.slice A n c) := X1.cell 0 rfl
  have f1 : w1.cell? ⟨w.heap.size, 1, none⟩ = some (.slice C m d) := X1.cell 1 rfl
  have HS1 : Hid (w.heap.size + 1 + 1 < w1.heap.size) := Lib.hid R1.out.lt
  clear X1 hmk HH HX HW0 hb0 hb1
  go_wp2_with fail
  refine (HSec.out w1 hb1').mono ?_
  rintro e w2 ⟨rfl, hb2, R2⟩
  have Y2 := Y1.out.step hb2
  have R12 := Lib.hid (row_below hb2 R1.out R1.out.lt)
  have g0 := Y2.cell 0 rfl
  have g1 := Y2.cell 1 rfl
  have g2 := Y2.frozen 0
  have g3 := Y2.frozen 1
  clear Y2 f0 f1
  go_wp2
  refine bodyPost_ret (v := .agg #[.slice (some ⟨w1.heap.size + 1, 0, none⟩) n n, .slice (some ⟨w.heap.size + 1 + 1, 0, none⟩) m m]) (by simp [results, Try.results46, go_sem, g0, g1]) rfl ?_
  refine ⟨w1.heap.size + 1, w.heap.size + 1 + 1, rfl, Lib.hid ⟨by have := HS1.out; omega, by omega, ?_, ?_⟩, ((bt hb1' hb2).setCell (by show w.heap.size ≤ w.heap.size + 1; omega) _).setCell (by show w.heap.size ≤ w.heap.size + 1; omega) _⟩
  · exact (R2.out.setOther (by show w1.heap.size + 1 ≠ w.heap.size + 1; have := HS1.out; omega) _).setOther (by show w1.heap.size + 1 ≠ w.heap.size + 1; have := HS1.out; omega) _
  · exact (R12.out.setOther (by show w.heap.size + 1 + 1 ≠ w.heap.size + 1; omega) _).setOther (by show w.heap.size + 1 + 1 ≠ w.heap.size + 1; omega) _
end Go.Proofs.Ytlfmniekbiffjaa

/- Contract of impl.WriteDisk. -/
namespace Go.Proofs.Ytlfmniekbiffjaa
open Go.RowKit

/-- What WriteDisk answers: the sectors, the writes, the code. -/
def writeOf (ss : List ByteArray) (ws : List (Int × ByteArray)) (a : Int) (t : ByteArray) : List ByteArray × List (Int × ByteArray) × Int :=
  if 65536 < t.size then ([], [], 2) else if okDisk ss ws = true then (if secB a = true then (if 100 < t.size then (ss, ws, 8) else if 60 ≤ ws.length then (ss, ws, 7) else (ss, ws ++ [(a, t)], 0)) else ([], [], 4)) else ([], [], 1)

theorem own_of_fill {w : World} {b m lo hi : Nat} {ws : List (Int × ByteArray)} (hm : ws.length = m) (h : w.rowIs b 87 (m * 2) (fillW ws m)) (h1 : lo ≤ b) (h2 : b < hi) : OwnW w lo hi (some ⟨b, 0, none⟩) ws := own_of_rowW hm h h1 h2
theorem ownsW_of_row {w : World} {base b m : Nat} {ws : List (Int × ByteArray)} (hb : base ≤ b) (hm : ws.length = m) (hmm : m ≤ maxLen) (h : w.rowIs b 87 (m * 2) (fillW ws m)) : w.ownsRow base 87 2 (.slice (some ⟨b, 0, none⟩) m m) m (cellsW ws) := by
  obtain ⟨cs, hc, hs, hf⟩ := h
  refine ⟨by rw [cellsW_len, hm], .inr ⟨b, m, cs, rfl, hb, hc, Nat.le_refl _, hmm, hs, ?_⟩⟩
  apply List.ext_getElem?
  intro i
  rw [List.take_of_length_le (by simp [hs])]
  by_cases hi : i < m * 2
  · rw [Array.getElem?_toList, hf i hi]
    have := fill_of_cells ws i (by rw [hm]; exact hi)
    rw [hm] at this
    rw [← this, List.getD_eq_getElem?_getD, List.getElem?_eq_getElem (by rw [cellsW_len, hm]; exact hi)]; rfl
  · rw [List.getElem?_eq_none (by simp [hs]; omega), List.getElem?_eq_none (by rw [cellsW_len, hm]; omega)]
theorem ownW_of_owns {w : World} {base n : Nat} {v : Value} {ws : List (Int × ByteArray)} (h : w.ownsRow base 87 2 v n (cellsW ws)) (hn : 0 < n) : ∃ g cap, v = .slice (some ⟨g, 0, none⟩) n cap ∧ base ≤ g ∧ g < w.heap.size ∧ ws.length = n ∧ ∀ lo hi, lo ≤ g → g < hi → OwnW w lo hi (some ⟨g, 0, none⟩) ws := by
  obtain ⟨hl, h0 | ⟨g, cap, cur, rfl, hb, hg, hnc, _, hsz, htk⟩⟩ := h
  · omega
  · rw [cellsW_len] at hl
    have hln : ws.length = n := by omega
    have hr : w.rowIs g 87 (cap * 2) (fun i => cur.toList.getD i undef) := ⟨cur, hg, hsz, fun i hi => by
      have : i < cur.toList.length := by simp [hsz, hi]
      show cur[i]? = some (cur.toList.getD i undef)
      rw [List.getD_eq_getElem?_getD, List.getElem?_eq_getElem this, ← Array.getElem?_toList, List.getElem?_eq_getElem this]
      rfl⟩
    refine ⟨g, cap, rfl, hb, hr.lt, hln, fun lo hi h1 h2 => .inr ⟨g, cap * 2, _, rfl, h1, h2, by omega, hr, fun i hi => ?_⟩⟩
    have key : ∀ j, j < n * 2 → cur.toList.getD j undef = (cellsW ws).getD j undef := fun j hj => by
      have h1 : (cur.toList.take (n * 2))[j]? = (cellsW ws)[j]? := by rw [htk]
      rw [List.getElem?_take, if_pos hj] at h1
      rw [List.getD_eq_getElem?_getD, h1, List.getD_eq_getElem?_getD]
    have q := cellsW_at ws i hi
    show cur.toList.getD (i * 2) undef = _ ∧ cur.toList.getD (i * 2 + 1) undef = _
    have k1 : (cellsW ws).getD (i * 2) undef = .int .i64 (ws.getD i (0, ByteArray.empty)).1 := by rw [List.getD_eq_getElem?_getD (l := cellsW ws), q.1]; rfl
    have k2 : (cellsW ws).getD (i * 2 + 1) undef = .string (ws.getD i (0, ByteArray.empty)).2 := by rw [List.getD_eq_getElem?_getD (l := cellsW ws), q.2]; rfl
    rw [key _ (by omega), key _ (by omega), k1, k2]
    exact ⟨rfl, rfl⟩
theorem cellsW_snoc (ws : List (Int × ByteArray)) (a : Int) (t : ByteArray) : cellsW ws ++ [.int .i64 a, .string t] = cellsW (ws ++ [(a, t)]) := by
  unfold cellsW; rw [List.flatMap_append]; rfl
set_option maxRecDepth 100000 in
theorem infoWx : ∃ i : TypeInfo, Try.prog.info? 87 = some i ∧ i.zero = some (.agg #[.int .i64 0, .string ByteArray.empty]) ∧ i.size = 2 ∧ i.bytes = 24 := by
  obtain ⟨i, hi, hzz⟩ := Option.map_eq_some_iff.1 infoW
  simp only [Prod.mk.injEq] at hzz
  exact ⟨i, hi, hzz.1, hzz.2.1, hzz.2.2⟩

/-- Stored into the result's cell: rows that lie elsewhere stay. -/
theorem own_stored2 {w w2 : World} {A2 C2 : Option Addr} {n2 c2 m2 d2 b : Nat} {rs : List ByteArray} (h1 : w.heap.size ≤ b) (h2 : w.heap.size + 1 < b) (S2 : OwnS w2 b w2.heap.size A2 rs) :
    OwnS ((w2.setCell ⟨w.heap.size + 1, 0, none⟩ (.slice A2 n2 c2)).setCell ⟨w.heap.size + 1, 1, none⟩ (.slice C2 m2 d2)) w.heap.size ((w2.setCell ⟨w.heap.size + 1, 0, none⟩ (.slice A2 n2 c2)).setCell ⟨w.heap.size + 1, 1, none⟩ (.slice C2 m2 d2)).heap.size A2 rs := by
  have e1 : (((w2.setCell ⟨w.heap.size + 1, 0, none⟩ (.slice A2 n2 c2)).setCell ⟨w.heap.size + 1, 1, none⟩ (.slice C2 m2 d2)).heap.size) = w2.heap.size := by simp [World.setCell]
  have k1 : Btw (w.heap.size + 1) (w.heap.size + 1 + 1) w2 ((w2.setCell ⟨w.heap.size + 1, 0, none⟩ (.slice A2 n2 c2)).setCell ⟨w.heap.size + 1, 1, none⟩ (.slice C2 m2 d2)) :=
    ((Btw.refl _ _ _).setCell (by show w.heap.size + 1 ≤ w.heap.size + 1; omega) (by show w.heap.size + 1 < w.heap.size + 1 + 1; omega) _).setCell (by show w.heap.size + 1 ≤ w.heap.size + 1; omega) (by show w.heap.size + 1 < w.heap.size + 1 + 1; omega) _
  rw [e1]
  exact (S2.btw k1 (.inr (by omega))).wide h1 (Nat.le_refl _)
theorem ownW_stored2 {w w2 : World} {A2 C2 : Option Addr} {n2 c2 m2 d2 b : Nat} {rw' : List (Int × ByteArray)} (h1 : w.heap.size ≤ b) (h2 : w.heap.size + 1 < b) (S2 : OwnW w2 b w2.heap.size C2 rw') :
    OwnW ((w2.setCell ⟨w.heap.size + 1, 0, none⟩ (.slice A2 n2 c2)).setCell ⟨w.heap.size + 1, 1, none⟩ (.slice C2 m2 d2)) w.heap.size ((w2.setCell ⟨w.heap.size + 1, 0, none⟩ (.slice A2 n2 c2)).setCell ⟨w.heap.size + 1, 1, none⟩ (.slice C2 m2 d2)).heap.size C2 rw' := by
  have e1 : (((w2.setCell ⟨w.heap.size + 1, 0, none⟩ (.slice A2 n2 c2)).setCell ⟨w.heap.size + 1, 1, none⟩ (.slice C2 m2 d2)).heap.size) = w2.heap.size := by simp [World.setCell]
  have k1 : Btw (w.heap.size + 1) (w.heap.size + 1 + 1) w2 ((w2.setCell ⟨w.heap.size + 1, 0, none⟩ (.slice A2 n2 c2)).setCell ⟨w.heap.size + 1, 1, none⟩ (.slice C2 m2 d2)) :=
    ((Btw.refl _ _ _).setCell (by show w.heap.size + 1 ≤ w.heap.size + 1; omega) (by show w.heap.size + 1 < w.heap.size + 1 + 1; omega) _).setCell (by show w.heap.size + 1 ≤ w.heap.size + 1; omega) (by show w.heap.size + 1 < w.heap.size + 1 + 1; omega) _
  rw [e1]
  exact (S2.btw k1 (.inr (by omega))).wide h1 (Nat.le_refl _)
theorem ownW_stored3 {w w2 : World} {A2 C2 : Option Addr} {n2 c2 m2 d2 gg : Nat} {rw' : List (Int × ByteArray)} (h1 : w.heap.size ≤ gg) (h2 : gg ≠ w.heap.size + 1) (h3 : gg < w2.heap.size) (S2 : OwnW w2 gg (gg + 1) C2 rw') :
    OwnW ((w2.setCell ⟨w.heap.size + 1, 0, none⟩ (.slice A2 n2 c2)).setCell ⟨w.heap.size + 1, 1, none⟩ (.slice C2 m2 d2)) w.heap.size ((w2.setCell ⟨w.heap.size + 1, 0, none⟩ (.slice A2 n2 c2)).setCell ⟨w.heap.size + 1, 1, none⟩ (.slice C2 m2 d2)).heap.size C2 rw' := by
  have e1 : (((w2.setCell ⟨w.heap.size + 1, 0, none⟩ (.slice A2 n2 c2)).setCell ⟨w.heap.size + 1, 1, none⟩ (.slice C2 m2 d2)).heap.size) = w2.heap.size := by simp [World.setCell]
  have k1 : Btw (w.heap.size + 1) (w.heap.size + 1 + 1) w2 ((w2.setCell ⟨w.heap.size + 1, 0, none⟩ (.slice A2 n2 c2)).setCell ⟨w.heap.size + 1, 1, none⟩ (.slice C2 m2 d2)) :=
    ((Btw.refl _ _ _).setCell (by show w.heap.size + 1 ≤ w.heap.size + 1; omega) (by show w.heap.size + 1 < w.heap.size + 1 + 1; omega) _).setCell (by show w.heap.size + 1 ≤ w.heap.size + 1; omega) (by show w.heap.size + 1 < w.heap.size + 1 + 1; omega) _
  rw [e1]
  exact (S2.btw k1 (by omega)).wide h1 (by omega)

end Go.Proofs.Ytlfmniekbiffjaa

/- The model's own copy of a disk: l01Own. -/
namespace Go.Proofs.Ytlfmniekbiffjaa
open Go.RowKit

/-- append onto an empty row without room: the row itself, or a new one. -/
theorem run_app_new {P : Program} (w : World) (t ty e : TypeId) (i : TypeInfo) (z : Value) (size bytes : Nat) (ht : P.underlying t = some (.slice e)) (hi : P.info? e = some i) (hz : i.zero = some z)
    (hsize : i.size = size) (hby : i.bytes = bytes) (hzs : z.cells.size = size) (hsz : 0 < size) (b : Addr)
    (A : Option Addr) (m c : Nat) (news : List Value) (hl : news.length = m * size) (hsrc : 0 < m → ∃ ad, A = some ad ∧ ∀ j u, news[j]? = some u → w.cell? (ad.add j) = some u)
    (h63 : m ≤ maxLen) (hbytes : m * bytes ≤ 140737488355328) :
    ∃ A' cap w', (Builtin.append_ #[t, t] ty #[.slice (some b) 0 0, .slice A m c]).run P w = .ok (.slice A' m cap) w' ∧ Below w.heap.size w w' ∧ (m = 0 ∧ A' = some b ∧ cap = 0 ∧ w' = w ∨ 0 < m ∧ w'.ownsRow w.heap.size e size (.slice A' m cap) m news) := by
  rcases Nat.eq_zero_or_pos m with rfl | hm
  · refine ⟨some b, 0, w, ?_, Below.refl _ _, .inl ⟨rfl, rfl, rfl, rfl⟩⟩
    cases A <;> simp [Builtin.append_, run_underlying ht, sizeOf, typeInfo, hi, Builtin.lenOf, Builtin.firstCells, storeCells, loadCells, loadCellsFrom]
  · obtain ⟨ad, rfl, hc⟩ := hsrc hm
    obtain ⟨v', w', hr, ho, hg⟩ := run_append_arg_grows (P := P) w t ty e i z size bytes ht hi hz hsize hby hzs hsz b 0 0 [] (by simp) (fun j u hj => by simp at hj) ad m c news hl hc (by omega) (by omega) (by rw [Nat.zero_add]; exact hbytes)
    rw [Nat.zero_add] at ho
    obtain ⟨hl', h0 | ⟨g, cap, cur, rfl, hrest⟩⟩ := ho
    · omega
    · exact ⟨_, cap, w', hr, below_of_grown hg (fun k hk => by cases hk) (Nat.le_refl _), .inr ⟨hm, hl', .inr ⟨g, cap, cur, rfl, hrest⟩⟩⟩

/-- As one step of a region that draws. -/
theorem step_app_new {P : Program} {ops : Array Oper} {o : Oper} {a : Act} {w : World} {K : Act → World → Prop} {Q : Exit → Act → World → Prop} {E : Prop}
    (hg : o.guard = none) (s x : Operand) (t : TypeId) (hop : o.op = Op.call { callee := Callee.builtin Builtin.append, args := #[s, x], argTypes := #[t, t] })
    (e : TypeId) (i : TypeInfo) (z : Value) (size bytes : Nat) (ht : P.underlying t = some (.slice e)) (hi : P.info? e = some i) (hz : i.zero = some z)
    (hsize : i.size = size) (hby : i.bytes = bytes) (hzs : z.cells.size = size) (hsz : 0 < size) (b : Addr) (hs : a.eval s = .slice (some b) 0 0)
    (A : Option Addr) (m c : Nat) (news : List Value) (hx : a.eval x = .slice A m c) (hl : news.length = m * size) (hsrc : 0 < m → ∃ ad, A = some ad ∧ ∀ j u, news[j]? = some u → w.cell? (ad.add j) = some u)
    (h63 : m ≤ maxLen) (hbytes : m * bytes ≤ 140737488355328)
    (hK : ∀ A' cap w', Below w.heap.size w w' → Hid (m = 0 ∧ A' = some b ∧ cap = 0 ∧ w' = w ∨ 0 < m ∧ w'.ownsRow w.heap.size e size (.slice A' m cap) m news) → K (a.put o.dst (.slice A' m cap)) w') :
    if Region.wanted o (yielded ops a.tmps) = true then Oper.wp P o a w K Q else E := by
  have hw : Region.wanted o (yielded ops a.tmps) = true := by simp [Region.wanted, hg]
  rw [if_pos hw]
  obtain ⟨A', cap, w', hr, h2, h3⟩ := run_app_new (P := P) w t o.type e i z size bytes ht hi hz hsize hby hzs hsz b A m c news hl hsrc h63 hbytes
  unfold Oper.wp execOp
  simp only [hop, resolve, invoke, builtin, Sem.run_bind, Sem.run_pure, Result.andThen_ok, List.map_toArray, List.map_cons, List.map_nil, hs, hx, hr]
  exact hK A' cap w' h2 (Lib.hid h3)

/-- As one operation of a plain region. -/
theorem wpList_app_new {P : Program} {ops : Array Oper} {rest : List Oper} {o : Oper} {a : Act} {w : World} {Q : Exit → Act → World → Prop}
    (hg : o.guard = none) (s x : Operand) (t : TypeId) (hop : o.op = Op.call { callee := Callee.builtin Builtin.append, args := #[s, x], argTypes := #[t, t] })
    (e : TypeId) (i : TypeInfo) (z : Value) (size bytes : Nat) (ht : P.underlying t = some (.slice e)) (hi : P.info? e = some i) (hz : i.zero = some z)
    (hsize : i.size = size) (hby : i.bytes = bytes) (hzs : z.cells.size = size) (hsz : 0 < size) (b : Addr) (hs : a.eval s = .slice (some b) 0 0)
    (A : Option Addr) (m c : Nat) (news : List Value) (hx : a.eval x = .slice A m c) (hl : news.length = m * size) (hsrc : 0 < m → ∃ ad, A = some ad ∧ ∀ j u, news[j]? = some u → w.cell? (ad.add j) = some u)
    (h63 : m ≤ maxLen) (hbytes : m * bytes ≤ 140737488355328)
    (h : ∀ A' cap w', Below w.heap.size w w' → Hid (m = 0 ∧ A' = some b ∧ cap = 0 ∧ w' = w ∨ 0 < m ∧ w'.ownsRow w.heap.size e size (.slice A' m cap) m news) → wpList P ops Q rest (a.put o.dst (.slice A' m cap)) w') : wpList P ops Q (o :: rest) a w :=
  wpList_plain hg fun _ hK => by
    obtain ⟨A', cap, w', hr, h2, h3⟩ := run_app_new (P := P) w t o.type e i z size bytes ht hi hz hsize hby hzs hsz b A m c news hl hsrc h63 hbytes
    unfold Oper.wp execOp
    simp only [hop, resolve, invoke, builtin, Sem.run_bind, Sem.run_pure, Result.andThen_ok, List.map_toArray, List.map_cons, List.map_nil, hs, hx, hr]
    exact hK _ _ (h A' cap w' h2 (Lib.hid h3))

theorem srcS {w W : World} {A : Option Addr} {ss : List ByteArray} {n : Nat} (hl : ss.length = n) (h : StrL w A ss) (hb : Below w.heap.size w W) : 0 < n → ∃ ad, A = some ad ∧ ∀ j u, (cellsS ss)[j]? = some u → W.cell? (ad.add j) = some u := fun hn => (h.below hb).src (by rw [cellsS_len]; omega)
theorem srcW {w W : World} {A : Option Addr} {ws : List (Int × ByteArray)} {n : Nat} (hl : ws.length = n) (h : WrL w A ws) (hb : Below w.heap.size w W) : 0 < n → ∃ ad, A = some ad ∧ ∀ j u, (cellsW ws)[j]? = some u → W.cell? (ad.add j) = some u := fun hn => (h.below hb).src (by omega)
theorem ownS_new {w w' : World} {b : Addr} {A' : Option Addr} {n cap : Nat} {ss : List ByteArray} (hl : ss.length = n) (h : n = 0 ∧ A' = some b ∧ cap = 0 ∧ w' = w ∨ 0 < n ∧ w'.ownsRow w.heap.size 9 1 (.slice A' n cap) n (cellsS ss)) : OwnS w' w.heap.size w'.heap.size A' ss := by
  rcases h with ⟨h0, _⟩ | ⟨hn, h⟩
  · exact .inl (List.eq_nil_of_length_eq_zero (by omega))
  · obtain ⟨g, cap', m, f, hv, q1, q2, q3, q4, q5⟩ := row_of_own h hn
    injection hv with hv _ _
    subst hv
    exact .inr ⟨g, m, f, rfl, q1, q4.lt, by omega, q4, fun i hi => q5 i (by omega)⟩
theorem ownW_new {w w' : World} {b : Addr} {A' : Option Addr} {n cap : Nat} {ws : List (Int × ByteArray)} (hl : ws.length = n) (h : n = 0 ∧ A' = some b ∧ cap = 0 ∧ w' = w ∨ 0 < n ∧ w'.ownsRow w.heap.size 87 2 (.slice A' n cap) n (cellsW ws)) : OwnW w' w.heap.size w'.heap.size A' ws := by
  rcases h with ⟨h0, _⟩ | ⟨hn, h⟩
  · exact .inl (List.eq_nil_of_length_eq_zero (by omega))
  · obtain ⟨g, cap', hv, q1, q2, q3, q4⟩ := ownW_of_owns h hn
    injection hv with hv _ _
    subst hv
    exact q4 _ _ q1 q2

set_option maxRecDepth 100000 in
set_option maxHeartbeats 4000000 in
theorem l01Own (A C : Option Addr) (n c m d : Nat) (ss : List ByteArray) (ws : List (Int × ByteArray)) (w : World) (hl : ss.length = n) (hm : ws.length = m) (hn : n ≤ 1048577) (hmm : m ≤ 1048577) (h : StrL w A ss) (g : WrL w C ws) :
    Calls Try.prog 42 #[.agg #[.slice A n c, .slice C m d]] w (GivesDisk ss ws w) := by
  have HL := Lib.hid (And.intro hl hm)
  have HSs := Lib.hid (fun W (hb : Below w.heap.size w W) => srcS hl h hb)
  have HSw := Lib.hid (fun W (hb : Below w.heap.size w W) => srcW hm g hb)
  have HCs : Hid ((cellsS ss).length = n * 1) := Lib.hid (by rw [cellsS_len]; omega)
  have HCw : Hid ((cellsW ws).length = m * 2) := Lib.hid (by rw [cellsW_len]; omega)
  clear hl hm h g
  obtain ⟨i0, hi0, hz0, hz1, hz2⟩ := infoSx
  have HI := Lib.hid (And.intro hi0 (And.intro hz0 (And.intro hz1 hz2)))
  clear hi0 hz0 hz1 hz2
  obtain ⟨i1, hi0, hz0, hz1, hz2⟩ := infoWx
  have HJ := Lib.hid (And.intro hi0 (And.intro hz0 (And.intro hz1 hz2)))
  clear hi0 hz0 hz1 hz2
  obtain ⟨W0, hW0⟩ : ∃ W0, W0 = ((w.alloc (.cells #[.slice A n c, .slice C m d] 30)).alloc (.cells #[.slice none 0 0, .slice none 0 0] 30)) := ⟨_, rfl⟩
  have hb0 : Below w.heap.size w W0 := by rw [hW0]; exact bt (alloc_below _ _) (alloc_below _ _)
  have X0 : Box W0 w.heap.size 30 #[.slice A n c, .slice C m d] := by rw [hW0]; exact (Box.new _ _ _).alloc _
  have Y0 : Box W0 (w.heap.size + 1) 30 #[.slice none 0 0, .slice none 0 0] := by rw [hW0]; simpa using Box.new (w.alloc (.cells #[.slice A n c, .slice C m d] 30)) 30 #[.slice none 0 0, .slice none 0 0]
  have HK : Hid (∀ W, Below W0.heap.size W0 W → W.cell? ⟨w.heap.size, 0, none⟩ = some (.slice A n c) ∧ W.cell? ⟨w.heap.size, 1, none⟩ = some (.slice C m d)) := Lib.hid (fun W hb => ⟨(X0.step hb).cell 0 rfl, (X0.step hb).cell 1 rfl⟩)
  have HKs : Hid (∀ W u v, Below W0.heap.size W0 W → ((W.setCell ⟨w.heap.size + 1, 0, none⟩ u).setCell ⟨w.heap.size + 1, 1, none⟩ v).cell? ⟨w.heap.size, 0, none⟩ = some (.slice A n c) ∧ ((W.setCell ⟨w.heap.size + 1, 0, none⟩ u).setCell ⟨w.heap.size + 1, 1, none⟩ v).cell? ⟨w.heap.size, 1, none⟩ = some (.slice C m d)) := Lib.hid (fun W u v hb => by
    have hX := ((X0.step hb).far (p := ⟨w.heap.size + 1, 0, none⟩) (by show w.heap.size ≠ w.heap.size + 1; omega) u).far (p := ⟨w.heap.size + 1, 1, none⟩) (by show w.heap.size ≠ w.heap.size + 1; omega) v
    exact ⟨hX.cell 0 rfl, hX.cell 1 rfl⟩)
  have HKy : Hid (∀ W, Below W0.heap.size W0 W → W.cell? ⟨w.heap.size + 1, 0, none⟩ = some (.slice none 0 0) ∧ W.cell? ⟨w.heap.size + 1, 1, none⟩ = some (.slice none 0 0) ∧ W.frozen? ⟨w.heap.size + 1, 0, none⟩ = false ∧ W.frozen? ⟨w.heap.size + 1, 1, none⟩ = false) := Lib.hid (fun W hb => ⟨(Y0.step hb).cell 0 rfl, (Y0.step hb).cell 1 rfl, (Y0.step hb).frozen 0, (Y0.step hb).frozen 1⟩)
  have HYl : Hid (w.heap.size + 1 < W0.heap.size) := Lib.hid Y0.lt
  have HB0 := Lib.hid hb0
  have h6 : Below W0.heap.size W0 W0.drew := (Below.refl _ _).drew
  have HW0 := Lib.hid hW0
  clear hW0 X0 Y0 hb0
  go_enter Try.func42, Try.ntmps42
  go_wp2
  rw [← HW0.out]
  clear HW0
  go_region_held3 (fun W => W.cell? ⟨w.heap.size, 0, none⟩ = some (.slice A n c) ∧ W.cell? ⟨w.heap.size, 1, none⟩ = some (.slice C m d))
    (first | exact HK.out _ h6 | exact HK.out _ (Below.drew (alloc_below W0 _)) | exact HK.out _ (Below.drew (bt (alloc_below W0 _) (alloc_below _ _))) | exact HK.out _ ka | exact HK.out _ (bt ka (alloc_below _ _)) | exact HK.out _ kb | exact HKs.out _ _ _ kb)
    (first | (refine step_app_new rfl (.tmp 3) (.tmp 5) 22 rfl 9 i0 (.string ByteArray.empty) 1 16 Try.underlying22 HI.out.1 HI.out.2.1 HI.out.2.2.1 HI.out.2.2.2 rfl (by decide) ⟨W0.heap.size, 0, none⟩ ?_ A n c (cellsS ss) ?_ ?_ ?_ ?_ ?_ ?_; simp [Act.eval]; simp [Act.eval]; exact HCs.out; exact HSs.out _ (bt HB0.out (Below.drew (alloc_below W0 _))); (unfold maxLen; omega); omega; intro Aa ca wa hba Oa; have ka := bt (Below.drew (alloc_below W0 _)) hba; have OSa := Lib.hid ((ownS_new HL.out.1 Oa.out).wide (Below.size (Below.drew (alloc_below W0 _))) (Nat.le_refl _)); clear Oa hba) | (refine step_app_new rfl (.tmp 3) (.tmp 5) 22 rfl 9 i0 (.string ByteArray.empty) 1 16 Try.underlying22 HI.out.1 HI.out.2.1 HI.out.2.2.1 HI.out.2.2.2 rfl (by decide) ⟨W0.heap.size, 0, none⟩ ?_ A n c (cellsS ss) ?_ ?_ ?_ ?_ ?_ ?_; simp [Act.eval]; simp [Act.eval]; exact HCs.out; exact HSs.out _ (bt HB0.out (Below.drew (bt (alloc_below W0 _) (alloc_below _ _)))); (unfold maxLen; omega); omega; intro Aa ca wa hba Oa; have ka := bt (Below.drew (bt (alloc_below W0 _) (alloc_below _ _))) hba; have OSa := Lib.hid ((ownS_new HL.out.1 Oa.out).wide (Below.size (Below.drew (bt (alloc_below W0 _) (alloc_below _ _)))) (Nat.le_refl _)); clear Oa hba) | (refine step_app_new rfl (.tmp 3) (.tmp 5) 22 rfl 9 i0 (.string ByteArray.empty) 1 16 Try.underlying22 HI.out.1 HI.out.2.1 HI.out.2.2.1 HI.out.2.2.2 rfl (by decide) ⟨W0.heap.size + 1, 0, none⟩ ?_ A n c (cellsS ss) ?_ ?_ ?_ ?_ ?_ ?_; simp [Act.eval]; simp [Act.eval]; exact HCs.out; exact HSs.out _ (bt HB0.out (Below.drew (bt (alloc_below W0 _) (alloc_below _ _)))); (unfold maxLen; omega); omega; intro Aa ca wa hba Oa; have ka := bt (Below.drew (bt (alloc_below W0 _) (alloc_below _ _))) hba; have OSa := Lib.hid ((ownS_new HL.out.1 Oa.out).wide (Below.size (Below.drew (bt (alloc_below W0 _) (alloc_below _ _)))) (Nat.le_refl _)); clear Oa hba) | (refine step_app_new rfl (.tmp 7) (.tmp 9) 28 rfl 87 i1 (.agg #[.int .i64 0, .string ByteArray.empty]) 2 24 Try.underlying28 HJ.out.1 HJ.out.2.1 HJ.out.2.2.1 HJ.out.2.2.2 rfl (by decide) ⟨wa.heap.size, 0, none⟩ ?_ C m d (cellsW ws) ?_ ?_ ?_ ?_ ?_ ?_; simp [Act.eval]; simp [Act.eval]; exact HCw.out; exact HSw.out _ (bt HB0.out (bt ka (alloc_below _ _))); (unfold maxLen; omega); omega; intro Ab cb wb hbb Ob; have kb := bt (bt ka (alloc_below _ _)) hbb; have kab : Below wa.heap.size wa wb := bt (alloc_below _ _) hbb; have OWb := Lib.hid ((ownW_new HL.out.2 Ob.out).wide (Below.size (bt ka (alloc_below _ _))) (Nat.le_refl _)); have OSb := Lib.hid ((OSa.out.btw (Btw.of_below kab 0 0) (.inr (Nat.zero_le _))).wide (Nat.le_refl _) kab.size); clear Ob hbb kab OSa; obtain ⟨y0, y1, y2, y3⟩ := HKy.out _ kb) | (refine step_app_new rfl (.tmp 7) (.tmp 9) 28 rfl 87 i1 (.agg #[.int .i64 0, .string ByteArray.empty]) 2 24 Try.underlying28 HJ.out.1 HJ.out.2.1 HJ.out.2.2.1 HJ.out.2.2.2 rfl (by decide) ⟨W0.heap.size + 1, 0, none⟩ ?_ C m d (cellsW ws) ?_ ?_ ?_ ?_ ?_ ?_; simp [Act.eval]; simp [Act.eval]; exact HCw.out; exact HSw.out _ (bt HB0.out ka); (unfold maxLen; omega); omega; intro Ab cb wb hbb Ob; have kb := bt ka hbb; have kab : Below wa.heap.size wa wb := hbb; have OWb := Lib.hid ((ownW_new HL.out.2 Ob.out).wide (Below.size ka) (Nat.le_refl _)); have OSb := Lib.hid ((OSa.out.btw (Btw.of_below kab 0 0) (.inr (Nat.zero_le _))).wide (Nat.le_refl _) kab.size); clear Ob hbb kab OSa; obtain ⟨y0, y1, y2, y3⟩ := HKy.out _ kb) | (refine step_app_new rfl (.tmp 7) (.tmp 9) 28 rfl 87 i1 (.agg #[.int .i64 0, .string ByteArray.empty]) 2 24 Try.underlying28 HJ.out.1 HJ.out.2.1 HJ.out.2.2.1 HJ.out.2.2.2 rfl (by decide) ⟨W0.heap.size, 0, none⟩ ?_ C m d (cellsW ws) ?_ ?_ ?_ ?_ ?_ ?_; simp [Act.eval]; simp [Act.eval]; exact HCw.out; exact HSw.out _ (bt HB0.out ka); (unfold maxLen; omega); omega; intro Ab cb wb hbb Ob; have kb := bt ka hbb; have kab : Below wa.heap.size wa wb := hbb; have OWb := Lib.hid ((ownW_new HL.out.2 Ob.out).wide (Below.size ka) (Nat.le_refl _)); have OSb := Lib.hid ((OSa.out.btw (Btw.of_below kab 0 0) (.inr (Nat.zero_le _))).wide (Nat.le_refl _) kab.size); clear Ob hbb kab OSa; obtain ⟨y0, y1, y2, y3⟩ := HKy.out _ kb))
  all_goals (go_wp2)
  all_goals (
    refine bodyPost_ret (v := .agg #[.slice Aa n ca, .slice Ab m cb]) (by simp [results, Try.results42, go_sem, y0, y1]) rfl ?_
    exact ⟨_, _, _, _, _, _, rfl, Lib.hid HL.out.1, Lib.hid HL.out.2, Lib.hid (own_stored2 (by have := HYl.out; omega) (by have := HYl.out; omega) OSb.out), Lib.hid (ownW_stored2 (by have := HYl.out; omega) (by have := HYl.out; omega) OWb.out), below_stored (bt HB0.out kb)⟩)
end Go.Proofs.Ytlfmniekbiffjaa

/- Contracts of the model's l01Write and of spec.WriteDisk. -/
namespace Go.Proofs.Ytlfmniekbiffjaa
open Go.RowKit

theorem own_emptyW {w : World} {base g : Nat} (hb : base ≤ g) (hg : Box w g 87 #[]) : w.ownsRow base 87 2 (.slice (some ⟨g, 0, none⟩) 0 0) 0 (cellsW []) :=
  ⟨rfl, .inr ⟨g, 0, #[], rfl, hb, hg, Nat.le_refl _, Nat.zero_le _, rfl, rfl⟩⟩
theorem ownsRow_lower {w : World} {base base' n : Nat} {e : TypeId} {size : Nat} {v : Value} {xs : List Value} (h : w.ownsRow base e size v n xs) (hb : base' ≤ base) : w.ownsRow base' e size v n xs := by
  obtain ⟨h1, h0 | ⟨g, cap, cur, rfl, q1, q2⟩⟩ := h
  · exact ⟨h1, .inl h0⟩
  · exact ⟨h1, .inr ⟨g, cap, cur, rfl, by omega, q2⟩⟩
theorem owns_new {w w' : World} {g base n cap : Nat} {A' : Option Addr} {ws : List (Int × ByteArray)} (hl : ws.length = n) (hg : Box w g 87 #[]) (hb : base ≤ g) (h : n = 0 ∧ A' = some ⟨g, 0, none⟩ ∧ cap = 0 ∧ w' = w ∨ 0 < n ∧ w'.ownsRow w.heap.size 87 2 (.slice A' n cap) n (cellsW ws)) : w'.ownsRow base 87 2 (.slice A' n cap) n (cellsW ws) := by
  rcases h with ⟨h0, rfl, rfl, rfl⟩ | ⟨hn, h⟩
  · obtain rfl : ws = [] := List.eq_nil_of_length_eq_zero (by omega)
    subst h0
    exact own_emptyW hb hg
  · have := hg.lt
    exact ownsRow_lower h (by omega)
theorem ownBlock_ge {w : World} {base n cap : Nat} {e : TypeId} {size : Nat} {A : Option Addr} {xs : List Value} (h : w.ownsRow base e size (.slice A n cap) n xs) : ∀ k, (Value.slice A n cap).ownBlock = some k → base ≤ k := by
  intro k hk
  obtain ⟨h1, ⟨h0, _⟩ | ⟨g, cap', cur, hv, q1, q2⟩⟩ := h
  · injection h0 with h0; subst h0; simp [Value.ownBlock] at hk
  · injection hv with hv; subst hv; simp [Value.ownBlock] at hk; omega

/-- A disk whose sectors are the argument's own. -/
def GivesWrite (A : Option Addr) (n c m : Nat) (rw' : List (Int × ByteArray)) (w : World) (e : Ending) (w' : World) : Prop :=
  ∃ C' d', e = .returned (.agg #[.slice A n c, .slice C' m d']) ∧ Hid (OwnW w' w.heap.size w'.heap.size C' rw') ∧ Below w.heap.size w w'

set_option maxRecDepth 100000 in
set_option maxHeartbeats 4000000 in
theorem l01Write (A C : Option Addr) (n c m d : Nat) (ws : List (Int × ByteArray)) (a : Int) (t : ByteArray) (w : World) (hm : ws.length = m) (hmm : m ≤ 60) (g : WrL w C ws) :
    Calls Try.prog 79 #[.agg #[.slice A n c, .slice C m d], .int .i64 a, .string t] w (GivesWrite A n c (m + 1) (ws ++ [(a, t)]) w) := by
  have HL := Lib.hid hm
  have HSw := Lib.hid (fun W (hb : Below w.heap.size w W) => srcW hm g hb)
  have HCw : Hid ((cellsW ws).length = m * 2) := Lib.hid (by rw [cellsW_len]; omega)
  clear hm g
  obtain ⟨i1, hi0, hz0, hz1, hz2⟩ := infoWx
  have HJ := Lib.hid (And.intro hi0 (And.intro hz0 (And.intro hz1 hz2)))
  clear hi0 hz0 hz1 hz2
  obtain ⟨W0, hW0⟩ : ∃ W0, W0 = (((w.alloc (.cells #[.slice A n c, .slice C m d] 30)).alloc (.cells #[.slice none 0 0, .slice none 0 0] 30)).alloc (.cells #[] 87)) := ⟨_, rfl⟩
  have hb0 : Below w.heap.size w W0 := by rw [hW0]; exact bt (bt (alloc_below _ _) (alloc_below _ _)) (alloc_below _ _)
  have hs0 : W0.heap.size = w.heap.size + 1 + 1 + 1 := by rw [hW0]; simp
  have X0 : Box W0 w.heap.size 30 #[.slice A n c, .slice C m d] := by rw [hW0]; exact ((Box.new _ _ _).alloc _).alloc _
  have Y0 : Box W0 (w.heap.size + 1) 30 #[.slice none 0 0, .slice none 0 0] := by rw [hW0]; simpa using (Box.new (w.alloc (.cells #[.slice A n c, .slice C m d] 30)) 30 #[.slice none 0 0, .slice none 0 0]).alloc (.cells #[] 87)
  have Z0 : Box W0 (w.heap.size + 1 + 1) 87 #[] := by rw [hW0]; simpa using Box.new ((w.alloc (.cells #[.slice A n c, .slice C m d] 30)).alloc (.cells #[.slice none 0 0, .slice none 0 0] 30)) 87 #[]
  have HZ := Lib.hid Z0
  have HX := Lib.hid (And.intro X0 Y0)
  have HS0 := Lib.hid hs0
  have HSrc := Lib.hid (HSw.out W0 hb0)
  have HB0 := Lib.hid hb0
  have HW0 := Lib.hid hW0
  clear hW0 X0 Y0 Z0 hs0 hb0 HSw
  go_enter Try.func79, Try.ntmps79
  go_wp2_with (at_builtin; refine wpList_app_new rfl (.tmp 7) (.tmp 9) 28 rfl 87 i1 (.agg #[.int .i64 0, .string ByteArray.empty]) 2 24 Try.underlying28 HJ.out.1 HJ.out.2.1 HJ.out.2.2.1 HJ.out.2.2.2 rfl (by decide) ⟨w.heap.size + 1 + 1, 0, none⟩ rfl C m d (cellsW ws) rfl HCw.out ?hsrc ?h63 ?hby ?_)
  case hsrc => rw [← HW0.out]; exact HSrc.out
  case h63 => unfold maxLen; omega
  case hby => omega
  rw [← HW0.out]
  intro A1 cap1 w1 hb1x O1
  have hb1 : Below W0.heap.size W0 w1 := by rw [HS0.out]; exact hb1x
  have HO1 := Lib.hid (owns_new (base := w.heap.size + 1 + 1) HL.out HZ.out (Nat.le_refl _) (by rw [HS0.out]; exact O1.out))
  have HX1 := Lib.hid (And.intro (HX.out.1.step hb1) (HX.out.2.step hb1))
  have hb2 := Lib.hid (bt HB0.out hb1)
  have HS1 : Hid (w.heap.size + 1 + 1 + 1 ≤ w1.heap.size) := Lib.hid (by have := hb1.size; have := HS0.out; omega)
  clear O1 hb1 hb1x HX HZ HSrc HW0 HS0 HB0 W0
  have k2 := Lib.hid (alloc_below w1 (.cells #[.int .i64 a, .string t] 87))
  have HOw : Hid ((w1.alloc (.cells #[.int .i64 a, .string t] 87)).ownsRow (w.heap.size + 1 + 1) 87 2 (.slice A1 m cap1) m (cellsW ws)) := Lib.hid (by
    obtain ⟨q1, h0 | ⟨gq, cq, cur, hv, q2, q3, q4⟩⟩ := HO1.out
    · exact ⟨q1, .inl h0⟩
    · refine ⟨q1, .inr ⟨gq, cq, cur, hv, q2, ?_, q4⟩⟩
      rw [k2.out.block gq (by rcases Nat.lt_or_ge gq w1.heap.size with hlt | hge; exact hlt; rw [Array.getElem?_eq_none hge] at q3; cases q3)]
      exact q3)
  have HNw : Hid (∀ j u, [Value.int .i64 a, Value.string t][j]? = some u → (w1.alloc (.cells #[.int .i64 a, .string t] 87)).cell? ((⟨w1.heap.size, 0, none⟩ : Addr).add j) = some u) := Lib.hid (fun j u hj => by
    have hB := Box.new w1 87 #[.int .i64 a, .string t]
    match j, hj with
    | 0, hj => simp at hj; subst hj; exact hB.cell 0 rfl
    | 1, hj => simp at hj; subst hj; exact hB.cell 1 rfl)
  go_wp2_with (at_builtin; refine wpList_append_own _ rfl (.tmp 10) (.tmp 14) 28 rfl (w.heap.size + 1 + 1) 87 i1 (.agg #[.int .i64 0, .string ByteArray.empty]) 2 24 Try.underlying28 HJ.out.1 HJ.out.2.1 HJ.out.2.2.1 HJ.out.2.2.2 rfl (by decide) _ m (cellsW ws) rfl ?hown ⟨w1.heap.size, 0, none⟩ 1 1 [.int .i64 a, .string t] rfl rfl ?hnews ?hone ?h63 ?hby ?hbase ?_)
  case hown => exact HOw.out
  case hnews => exact HNw.out
  case hone => intro u hu; simp at hu; rcases hu with rfl | rfl <;> rfl
  case h63 => unfold maxLen; omega
  case hby => omega
  case hbase => have := HS1.out; simp; omega
  intro v1 w4 hown hgr hniff
  rw [cellsW_snoc] at hown
  obtain ⟨gg, cap, hv, p1, p2, p3, p4⟩ := ownW_of_owns hown (by omega)
  rw [hv]
  have hge := ownBlock_ge HOw.out
  have hb5 : Below (w.heap.size + 1 + 1) (w1.alloc (.cells #[.int .i64 a, .string t] 87)) w4 := below_of_grown hgr hge (by have := HS1.out; simp; omega)
  have X4 : Box w4 w.heap.size 30 #[.slice A n c, .slice C m d] := (HX1.out.1.step k2.out).below hb5 (by omega)
  have Y4 : Box w4 (w.heap.size + 1) 30 #[.slice none 0 0, .slice none 0 0] := (HX1.out.2.step k2.out).below hb5 (by omega)
  have HB6 := Lib.hid ((bt hb2.out k2.out).trans (hb5.mono (by omega)))
  have HP4 := Lib.hid (p4 gg (gg + 1) (Nat.le_refl _) (by omega))
  have HG : Hid (w.heap.size + 1 + 1 ≤ gg ∧ gg < w4.heap.size) := Lib.hid ⟨p1, p2⟩
  have f0 := X4.cell 0 rfl
  have f1 := X4.cell 1 rfl
  have f2 := X4.frozen 1
  have y0 := Y4.cell 0 rfl
  have y1 := Y4.cell 1 rfl
  have y2 := Y4.frozen 0
  have y3 := Y4.frozen 1
  clear hown hgr hniff hv p1 p2 p3 p4 hge hb5 X4 Y4 k2 HOw HNw HX1 HJ i1 v1 HO1
  go_wp2
  refine bodyPost_ret (v := .agg #[.slice A n c, .slice (some ⟨gg, 0, none⟩) (m + 1) cap]) (by simp [results, Try.results79, go_sem, y0, y1]) rfl ?_
  have hg' := HG.out
  have kA : Btw w.heap.size (w.heap.size + 1) w4 (w4.setCell ⟨w.heap.size, 1, none⟩ (.slice (some ⟨gg, 0, none⟩) (m + 1) cap)) := (Btw.refl _ _ _).setCell (by show w.heap.size ≤ w.heap.size; omega) (by show w.heap.size < w.heap.size + 1; omega) _
  have es : (w4.setCell ⟨w.heap.size, 1, none⟩ (.slice (some ⟨gg, 0, none⟩) (m + 1) cap)).heap.size = w4.heap.size := by simp [World.setCell]
  have OW := HP4.out.btw kA (by omega)
  exact ⟨_, _, rfl, Lib.hid (ownW_stored3 (by omega) (by omega) (by rw [es]; exact hg'.2) OW), below_stored (HB6.out.setCell (by show w.heap.size ≤ w.heap.size; omega) _)⟩

theorem write_bound (ss : List ByteArray) (ws : List (Int × ByteArray)) (a : Int) (t : ByteArray) (h : ss.length ≤ 1048576) (g : ws.length ≤ 1048576) : (writeOf ss ws a t).1.length ≤ 1048577 ∧ (writeOf ss ws a t).2.1.length ≤ 1048577 := by
  unfold writeOf
  split
  · simp
  · split
    · split
      · split
        · simp; omega
        · split
          · simp; omega
          · simp; omega
      · simp
    · simp
end Go.Proofs.Ytlfmniekbiffjaa

/- The model's source of draws: byte, next, chance. -/
namespace Go.Proofs.Ytlfmniekbiffjaa
open Go.RowKit

/-- The slice at A holds these bytes, in a block below lo. -/
def ByB (w : World) (lo : Nat) (A : Option Addr) (zs : List Nat) : Prop :=
  ∀ i, i < zs.length → ∃ b off, A = some ⟨b, off, none⟩ ∧ b < lo ∧ w.cell? ⟨b, off + i, none⟩ = some (.int .u8 (zs.getD i 0 : Nat)) ∧ zs.getD i 0 < 256
theorem ByB.btw {w w' : World} {lo l h' : Nat} {A : Option Addr} {zs : List Nat} (h : ByB w lo A zs) (hb : Btw l h' w w') (ho : lo ≤ l) : ByB w' lo A zs := fun i hi => by
  obtain ⟨b, off, e, q1, q2, q3⟩ := h i hi
  exact ⟨b, off, e, q1, hb.cell q2 (.inl (by show b < l; omega)), q3⟩
/-- The source at b: its bytes, how many are drawn (at most K), a seed. -/
def Src (w : World) (b : Nat) (A : Option Addr) (n c : Nat) (zs : List Nat) (K : Nat) : Prop :=
  ∃ k sd : Nat, Box w b 114 #[.slice A n c, .int .i64 k, .int .i64 sd] ∧ k ≤ K ∧ sd < 2147483648 ∧ zs.length = n ∧ ByB w b A zs
theorem Src.btw {w w' : World} {b l h' : Nat} {A : Option Addr} {n c : Nat} {zs : List Nat} {K : Nat} (h : Src w b A n c zs K) (hb : Btw l h' w w') (ho : b < l) : Src w' b A n c zs K := by
  obtain ⟨k, sd, q1, q2, q3, q4, q5⟩ := h
  exact ⟨k, sd, q1.btw hb (.inl ho), q2, q3, q4, q5.btw hb (by omega)⟩
theorem Src.lt {w : World} {b : Nat} {A : Option Addr} {n c : Nat} {zs : List Nat} {K : Nat} (h : Src w b A n c zs K) : b < w.heap.size := by
  obtain ⟨k, sd, q1, _⟩ := h
  exact q1.lt
theorem Src.mono {w : World} {b : Nat} {A : Option Addr} {n c : Nat} {zs : List Nat} {K K' : Nat} (h : Src w b A n c zs K) (hk : K ≤ K') : Src w b A n c zs K' := by
  obtain ⟨k, sd, q1, q2, q3⟩ := h
  exact ⟨k, sd, q1, by omega, q3⟩

/-- After 'at++'. -/
theorem src_at {w : World} {b : Nat} {A : Option Addr} {n c : Nat} {k sd : Nat} (X : Box w b 114 #[.slice A n c, .int .i64 k, .int .i64 sd]) :
    Box (w.setCell ⟨b, 1, none⟩ (.int .i64 ((k : Int) + 1))) b 114 #[.slice A n c, .int .i64 ((k + 1 : Nat) : Int), .int .i64 sd] := X.set 1 (.int .i64 ((k : Int) + 1))
theorem src_seed {w : World} {b : Nat} {A : Option Addr} {n c : Nat} {k sd : Nat} (X : Box w b 114 #[.slice A n c, .int .i64 k, .int .i64 sd]) (s2 : Nat) :
    Box (w.setCell ⟨b, 2, none⟩ (.int .i64 (s2 : Int))) b 114 #[.slice A n c, .int .i64 k, .int .i64 s2] := X.set 2 (.int .i64 (s2 : Int))

/-- The source at b, exactly: its bytes, how many are drawn, the seed. -/
def SrcX (w : World) (b : Nat) (A : Option Addr) (n c : Nat) (zs : List Nat) (k sd : Nat) : Prop :=
  Box w b 114 #[.slice A n c, .int .i64 k, .int .i64 sd] ∧ sd < 2147483648 ∧ zs.length = n ∧ ByB w b A zs
/-- What byte draws: the byte, the count, the seed. -/
def byteV (zs : List Nat) (k sd : Nat) : Nat × Nat × Nat :=
  if k < zs.length then (zs.getD k 0, k + 1, (sd * 31 + zs.getD k 0 + 7) % 2147483648) else if 3000 < k + 1 then (0, k + 1, sd) else ((sd * 1103515245 + 12345) % 2147483648 / 65536 % 256, k + 1, (sd * 1103515245 + 12345) % 2147483648)
theorem byteV_at (zs : List Nat) (k sd : Nat) : (byteV zs k sd).2.1 = k + 1 := by
  unfold byteV; split
  · rfl
  · split <;> rfl
theorem SrcX.src {w : World} {b : Nat} {A : Option Addr} {n c : Nat} {zs : List Nat} {k sd : Nat} (h : SrcX w b A n c zs k sd) {K : Nat} (hk : k ≤ K) : Src w b A n c zs K := ⟨k, sd, h.1, hk, h.2.1, h.2.2.1, h.2.2.2⟩
theorem Src.exact {w : World} {b : Nat} {A : Option Addr} {n c : Nat} {zs : List Nat} {K : Nat} (h : Src w b A n c zs K) : ∃ k sd, k ≤ K ∧ SrcX w b A n c zs k sd := by
  obtain ⟨k, sd, q1, q2, q3, q4, q5⟩ := h
  exact ⟨k, sd, q2, q1, q3, q4, q5⟩
theorem SrcX.byteV_lt {w : World} {b : Nat} {A : Option Addr} {n c : Nat} {zs : List Nat} {k sd : Nat} (h : SrcX w b A n c zs k sd) : (byteV zs k sd).1 < 256 := by
  unfold byteV; split
  · rename_i hk; obtain ⟨_, _, _, _, _, hv⟩ := h.2.2.2 k hk; exact hv
  · split
    · exact (by omega : (0 : Nat) < 256)
    · exact Nat.mod_lt _ (by omega)

set_option maxRecDepth 100000 in
set_option maxHeartbeats 4000000 in
theorem srcByteX (b : Nat) (A : Option Addr) (n c : Nat) (zs : List Nat) (k sd : Nat) (w : World) (hk9 : k ≤ 1000000000) (h : SrcX w b A n c zs k sd) :
    Calls Try.prog 109 #[.pointer (some ⟨b, 0, none⟩)] w fun e w' => e = .returned (.int .i64 ((byteV zs k sd).1 : Nat)) ∧ Hid (SrcX w' b A n c zs (byteV zs k sd).2.1 (byteV zs k sd).2.2) ∧ Btw b (b + 1) w w' := by
  obtain ⟨X, hs, hl, hz⟩ := h
  have HX := Lib.hid (src_at X)
  have HB : Hid (Btw b (b + 1) w (w.setCell ⟨b, 1, none⟩ (.int .i64 ((k : Int) + 1)))) := Lib.hid ((Btw.refl b (b + 1) w).setCell (p := ⟨b, 1, none⟩) (by show b ≤ b; omega) (by show b < b + 1; omega) _)
  have HZ := Lib.hid (hz.btw HB.out (Nat.le_refl _))
  have HL := Lib.hid hl
  have f1 : w.cell? ⟨b, 1, none⟩ = some (.int .i64 k) := X.cell 1 rfl
  have g1 := X.frozen 1
  clear X hz hl
  go_enter Try.func109, Try.ntmps109
  go_wp2
  generalize w.setCell ⟨b, 1, none⟩ (.int .i64 ((k : Int) + 1)) = w1 at HX HB HZ ⊢
  clear f1 g1
  have f0 : w1.cell? ⟨b, 0, none⟩ = some (.slice A n c) := HX.out.cell 0 rfl
  have f1 : w1.cell? ⟨b, 1, none⟩ = some (.int .i64 ((k : Int) + 1)) := HX.out.cell 1 rfl
  have f2 : w1.cell? ⟨b, 2, none⟩ = some (.int .i64 sd) := HX.out.cell 2 rfl
  have g2 := HX.out.frozen 2
  by_cases hlt : k < n
  · have hlt' : (k : Int) + 1 ≤ (n : Int) := by omega
    have hk0 : (0 : Int) ≤ (k : Int) := by omega
    have hki : (k : Int) < (n : Int) := by omega
    obtain ⟨bb, off, rfl, hbb, hc, hv⟩ := HZ.out k (by rw [HL.out]; exact hlt)
    have HV : Hid (byteV zs k sd = (zs.getD k 0, k + 1, (sd * 31 + zs.getD k 0 + 7) % 2147483648)) := Lib.hid (by unfold byteV; rw [if_pos (by rw [HL.out]; exact hlt)])
    generalize zs.getD k 0 = x at hc hv HV
    have hne : ¬ bb = b := by omega
    go_quiet (fail)
    go_wp2
    have HX2 := Lib.hid (HX.out.drewN nq)
    have HB2 := Lib.hid (HB.out.drewN nq)
    have HZ2 := Lib.hid (HZ.out.btw ((Btw.refl b (b + 1) w1).drewN nq) (Nat.le_refl _))
    have hc2 : (w1.drewN nq).cell? ⟨bb, off + k, none⟩ = some (.int .u8 (x : Nat)) := hc
    clear f0 f1 f2 g2 hc HX HB HZ
    generalize w1.drewN nq = w2 at HX2 HB2 HZ2 hc2 ⊢
    have f0 : w2.cell? ⟨b, 0, none⟩ = some (.slice (some ⟨bb, off, none⟩) n c) := HX2.out.cell 0 rfl
    have f1 : w2.cell? ⟨b, 1, none⟩ = some (.int .i64 ((k : Int) + 1)) := HX2.out.cell 1 rfl
    have f2 : w2.cell? ⟨b, 2, none⟩ = some (.int .i64 sd) := HX2.out.cell 2 rfl
    have g2 := HX2.out.frozen 2
    have t0 : (0 : Int) ≤ (sd : Int) := by omega
    have u1 : IntKind.i64.wrap ((sd : Int) * 31) = (sd : Int) * 31 := IntWalk.i64_in _ ⟨by omega, by omega⟩
    have u2 : IntKind.i64.wrap (k : Int) = (k : Int) := IntWalk.i64_in _ ⟨by omega, by omega⟩
    have u3 : IntKind.i64.wrap (x : Int) = (x : Int) := IntWalk.i64_in _ ⟨by omega, by omega⟩
    have u4 : IntKind.i64.wrap ((sd : Int) * 31 + (x : Int)) = (sd : Int) * 31 + (x : Int) := IntWalk.i64_in _ ⟨by omega, by omega⟩
    have u5 : IntKind.i64.wrap ((sd : Int) * 31 + (x : Int) + 7) = (sd : Int) * 31 + (x : Int) + 7 := IntWalk.i64_in _ ⟨by omega, by omega⟩
    go_still_tail 21, (by kernel_rfl)
    change wpList _ _ _ _ _ w2.drew
    go_wp2
    clear u1 u2 u3 u4 u5
    have e1 : ((sd : Int) * 31 + (x : Int) + 7) % 2147483648 = (((sd * 31 + x + 7) % 2147483648 : Nat) : Int) := by omega
    have e2 : (sd * 31 + x + 7) % 2147483648 < 2147483648 := Nat.mod_lt _ (by omega)
    rw [e1]
    clear e1
    generalize (sd * 31 + x + 7) % 2147483648 = s2 at e2 HV ⊢
    have kA : Btw b (b + 1) w2 ((w2.setCell ⟨b, 2, none⟩ (.int .i64 (s2 : Int))).drew) := ((Btw.refl b (b + 1) _).setCell (p := ⟨b, 2, none⟩) (by show b ≤ b; omega) (by show b < b + 1; omega) _).drew
    have HX3 := Lib.hid (src_seed HX2.out s2).drew
    have HB3 := Lib.hid (HB2.out.trans kA)
    have HZ3 := Lib.hid (HZ2.out.btw kA (Nat.le_refl _))
    have hc3 := kA.cell hc2 (.inl hbb)
    clear f0 f1 f2 g2 hc2 HX2 HB2 HZ2 kA
    generalize (w2.setCell ⟨b, 2, none⟩ (.int .i64 (s2 : Int))).drew = w3 at HX3 HB3 HZ3 hc3 ⊢
    have f0 : w3.cell? ⟨b, 0, none⟩ = some (.slice (some ⟨bb, off, none⟩) n c) := HX3.out.cell 0 rfl
    have f1 : w3.cell? ⟨b, 1, none⟩ = some (.int .i64 ((k : Int) + 1)) := HX3.out.cell 1 rfl
    have u2 : IntKind.i64.wrap (k : Int) = (k : Int) := IntWalk.i64_in _ ⟨by omega, by omega⟩
    have u3 : IntKind.i64.wrap (x : Int) = (x : Int) := IntWalk.i64_in _ ⟨by omega, by omega⟩
    go_quiet (fail)
    clear u2 u3
    go_wp2
    refine bodyPost_ret (v := .int .i64 (x : Int)) (by simp [results, Try.results109, go_sem]) rfl ?_
    rw [HV.out]
    exact ⟨rfl, Lib.hid ⟨HX3.out.drewN _, e2, HL.out, HZ3.out.btw ((Btw.refl b (b + 1) w3).drewN _) (Nat.le_refl _)⟩, HB3.out.drewN _⟩
  · have hlt' : ¬ (k : Int) + 1 ≤ (n : Int) := by omega
    by_cases h3 : 3000 < (k : Int) + 1
    · have HV : Hid (byteV zs k sd = (0, k + 1, sd)) := Lib.hid (by unfold byteV; rw [if_neg (by rw [HL.out]; exact hlt), if_pos (by omega)])
      go_quiet (fail)
      go_wp2
      refine bodyPost_ret (v := .int .i64 ((0 : Nat) : Int)) (by simp [results, Try.results109, go_sem]) rfl ?_
      rw [HV.out]
      exact ⟨rfl, Lib.hid ⟨HX.out.drewN nq, hs, HL.out, HZ.out.btw ((Btw.refl b (b + 1) w1).drewN nq) (Nat.le_refl _)⟩, HB.out.drewN nq⟩
    · have HV : Hid (byteV zs k sd = ((sd * 1103515245 + 12345) % 2147483648 / 65536 % 256, k + 1, (sd * 1103515245 + 12345) % 2147483648)) := Lib.hid (by unfold byteV; rw [if_neg (by rw [HL.out]; exact hlt), if_neg (by omega)])
      go_quiet (fail)
      go_wp2
      have e1 : ((sd : Int) * 1103515245 + 12345) % 2147483648 = (((sd * 1103515245 + 12345) % 2147483648 : Nat) : Int) := by omega
      have e2 : (sd * 1103515245 + 12345) % 2147483648 < 2147483648 := Nat.mod_lt _ (by omega)
      rw [e1]
      generalize (sd * 1103515245 + 12345) % 2147483648 = s2 at e2 HV ⊢
      have e3 : (s2 : Int) / 65536 % 256 = ((s2 / 65536 % 256 : Nat) : Int) := by omega
      rw [e3]
      have kA : Btw b (b + 1) (w1.drewN nq) ((w1.drewN nq).setCell ⟨b, 2, none⟩ (.int .i64 (s2 : Int))) := (Btw.refl b (b + 1) _).setCell (p := ⟨b, 2, none⟩) (by show b ≤ b; omega) (by show b < b + 1; omega) _
      have kB := ((Btw.refl b (b + 1) w1).drewN nq).trans kA
      refine bodyPost_ret (v := .int .i64 ((s2 / 65536 % 256 : Nat) : Int)) (by simp [results, Try.results109, go_sem]) rfl ?_
      rw [HV.out]
      exact ⟨rfl, Lib.hid ⟨src_seed (HX.out.drewN nq) s2, e2, HL.out, HZ.out.btw kB (Nat.le_refl _)⟩, HB.out.trans kB⟩

set_option maxRecDepth 100000 in
theorem srcByte (b : Nat) (A : Option Addr) (n c : Nat) (zs : List Nat) (K : Nat) (w : World) (hK : K ≤ 1000000000) (h : Src w b A n c zs K) :
    Calls Try.prog 109 #[.pointer (some ⟨b, 0, none⟩)] w fun e w' => ∃ v : Nat, e = .returned (.int .i64 v) ∧ v < 256 ∧ Hid (Src w' b A n c zs (K + 1)) ∧ Btw b (b + 1) w w' := by
  obtain ⟨k, sd, hk, hx⟩ := h.exact
  refine (srcByteX b A n c zs k sd w (by omega) hx).mono ?_
  rintro e w' ⟨rfl, h2, h3⟩
  exact ⟨_, rfl, hx.byteV_lt, Lib.hid (h2.out.src (by rw [byteV_at]; omega)), h3⟩
end Go.Proofs.Ytlfmniekbiffjaa

/- The model's source of draws: next, chance, the source itself. -/
namespace Go.Proofs.Ytlfmniekbiffjaa
open Go.RowKit

set_option maxRecDepth 100000 in
set_option maxHeartbeats 4000000 in
theorem srcNextX (N : Nat) (b : Nat) (A : Option Addr) (n c : Nat) (zs : List Nat) (k sd : Nat) (w : World) (hN : 2 ≤ N) (hN2 : N ≤ 256) (hK : k ≤ 1000000000) (h : SrcX w b A n c zs k sd) :
    Calls Try.prog 94 #[.pointer (some ⟨b, 0, none⟩), .int .i64 (N : Nat)] w fun e w' => e = .returned (.int .i64 ((byteV zs k sd).1 % N : Nat)) ∧ Hid (SrcX w' b A n c zs (byteV zs k sd).2.1 (byteV zs k sd).2.2) ∧ Btw b (b + 1) w w' := by
  have HC := Lib.hid (srcByteX b A n c zs k sd w hK h)
  have h1 : ¬ (N : Int) ≤ 1 := by omega
  have h2 : (N : Int) ≤ 256 := by omega
  have h3 : ¬ (N : Int) = 0 := by omega
  clear h
  go_enter Try.func94, Try.ntmps94
  go_wp2_with fail
  refine HC.out.mono ?_
  rintro e w1 ⟨rfl, S1, hb1⟩
  obtain ⟨v, hv⟩ : ∃ v, v = (byteV zs k sd).1 := ⟨_, rfl⟩
  rw [← hv]
  have HV := Lib.hid hv
  clear hv
  have v0 : (0 : Int) ≤ (v : Int) := by omega
  go_wp2
  have e1 : (v : Int) % (N : Int) = ((v % N : Nat) : Int) := by omega
  rw [e1]
  refine bodyPost_ret (v := .int .i64 ((v % N : Nat) : Int)) (by simp [results, Try.results94, go_sem]) rfl ?_
  exact ⟨by rw [HV.out], S1, hb1⟩

set_option maxRecDepth 100000 in
theorem srcNext (N : Nat) (b : Nat) (A : Option Addr) (n c : Nat) (zs : List Nat) (K : Nat) (w : World) (hN : 2 ≤ N) (hN2 : N ≤ 256) (hK : K ≤ 1000000000) (h : Src w b A n c zs K) :
    Calls Try.prog 94 #[.pointer (some ⟨b, 0, none⟩), .int .i64 (N : Nat)] w fun e w' => ∃ v : Nat, e = .returned (.int .i64 v) ∧ v < N ∧ Hid (Src w' b A n c zs (K + 1)) ∧ Btw b (b + 1) w w' := by
  obtain ⟨k, sd, hk, hx⟩ := h.exact
  refine (srcNextX N b A n c zs k sd w hN hN2 (by omega) hx).mono ?_
  rintro e w' ⟨rfl, h2, h3⟩
  exact ⟨_, rfl, Nat.mod_lt _ (by omega), Lib.hid (h2.out.src (by rw [byteV_at]; omega)), h3⟩

set_option maxRecDepth 100000 in
set_option maxHeartbeats 4000000 in
theorem srcNewX (A : Option Addr) (n c : Nat) (zs : List Nat) (w : World) (hn : n ≤ maxLen) (hl : zs.length = n) (h : ByB w w.heap.size A zs) :
    Calls Try.prog 58 #[.slice A n c] w fun e w' => e = .returned (.pointer (some ⟨w.heap.size, 0, none⟩)) ∧ Hid (SrcX w' w.heap.size A n c zs 0 (n % 1000)) ∧ Below w.heap.size w w' := by
  unfold maxLen at hn
  go_enter Try.func58, Try.ntmps58
  go_wp2
  have e1 : (n : Int) % 1000 = ((n % 1000 : Nat) : Int) := by omega
  rw [e1]
  refine bodyPost_ret (v := .pointer (some ⟨w.heap.size, 0, none⟩)) (by simp [results, Try.results58, go_sem]) rfl ?_
  have hb := alloc_below w (.cells #[.slice A n c, .int .i64 0, .int .i64 ((n % 1000 : Nat) : Int)] 114)
  exact ⟨rfl, Lib.hid ⟨Box.new _ _ _, Nat.lt_of_lt_of_le (Nat.mod_lt _ (by omega)) (by omega), hl, h.btw (Btw.of_below hb w.heap.size (w.heap.size + 1)) (Nat.le_refl _)⟩, hb⟩

set_option maxRecDepth 100000 in
theorem srcNew (A : Option Addr) (n c : Nat) (zs : List Nat) (w : World) (hn : n ≤ maxLen) (hl : zs.length = n) (h : ByB w w.heap.size A zs) :
    Calls Try.prog 58 #[.slice A n c] w fun e w' => e = .returned (.pointer (some ⟨w.heap.size, 0, none⟩)) ∧ Hid (Src w' w.heap.size A n c zs 0) ∧ Below w.heap.size w w' := by
  refine (srcNewX A n c zs w hn hl h).mono ?_
  rintro e w' ⟨rfl, h2, h3⟩
  exact ⟨rfl, Lib.hid (h2.out.src (Nat.le_refl _)), h3⟩
end Go.Proofs.Ytlfmniekbiffjaa

/- The source of draws, carried over what does not touch it. -/
namespace Go.Proofs.Ytlfmniekbiffjaa
open Go.RowKit

theorem Src.below {w w' : World} {b B : Nat} {A : Option Addr} {n c : Nat} {zs : List Nat} {K : Nat} (h : Src w b A n c zs K) (hb : Below B w w') (ho : b < B) : Src w' b A n c zs K := by
  obtain ⟨k, sd, q1, q2, q3, q4, q5⟩ := h
  refine ⟨k, sd, q1.below hb ho, q2, q3, q4, fun i hi => ?_⟩
  obtain ⟨bb, off, e, p1, p2, p3⟩ := q5 i hi
  exact ⟨bb, off, e, p1, (hb.cell (by show bb < B; omega)).trans p2, p3⟩
theorem Src.drew {w : World} {b : Nat} {A : Option Addr} {n c : Nat} {zs : List Nat} {K : Nat} (h : Src w b A n c zs K) : Src w.drew b A n c zs K := h.below (Below.refl _ _).drew h.lt
theorem Src.alloc {w : World} {b : Nat} {A : Option Addr} {n c : Nat} {zs : List Nat} {K : Nat} (h : Src w b A n c zs K) (o : Obj) : Src (w.alloc o) b A n c zs K := h.below (alloc_below w o) h.lt
theorem ByB.step {w w' : World} {A : Option Addr} {zs : List Nat} (h : ByB w w.heap.size A zs) (hb : Below w.heap.size w w') : ByB w' w'.heap.size A zs := fun i hi => by
  obtain ⟨b, off, e, q1, q2, q3⟩ := h i hi
  exact ⟨b, off, e, Nat.lt_of_lt_of_le q1 hb.size, (hb.cell q1).trans q2, q3⟩
end Go.Proofs.Ytlfmniekbiffjaa

/- The model's source of draws: a text of n letters, fates. -/
namespace Go.Proofs.Ytlfmniekbiffjaa
open Go.RowKit

theorem SrcX.below {w w' : World} {b B : Nat} {A : Option Addr} {n c : Nat} {zs : List Nat} {k sd : Nat} (h : SrcX w b A n c zs k sd) (hb : Below B w w') (ho : b < B) : SrcX w' b A n c zs k sd := by
  obtain ⟨q1, q3, q4, q5⟩ := h
  refine ⟨q1.below hb ho, q3, q4, fun i hi => ?_⟩
  obtain ⟨bb, off, e, p1, p2, p3⟩ := q5 i hi
  exact ⟨bb, off, e, p1, (hb.cell (by show bb < B; omega)).trans p2, p3⟩
theorem owns_keep {w w' : World} {base n : Nat} {e : TypeId} {size : Nat} {v : Value} {xs : List Value} (h : w.ownsRow base e size v n xs) (hk : ∀ k, base ≤ k → k < w.heap.size → w'.heap[k]? = w.heap[k]?) : w'.ownsRow base e size v n xs := by
  obtain ⟨h1, h0 | ⟨g, cap, cur, rfl, q1, q2, q3⟩⟩ := h
  · exact ⟨h1, .inl h0⟩
  · refine ⟨h1, .inr ⟨g, cap, cur, rfl, q1, ?_, q3⟩⟩
    have hlt : g < w.heap.size := by
      rcases Nat.lt_or_ge g w.heap.size with hlt | hge
      · exact hlt
      · rw [Array.getElem?_eq_none hge] at q2; cases q2
    rw [hk g q1 hlt]; exact q2
theorem owns_empty {w : World} {base g : Nat} {t : TypeId} (hb : base ≤ g) (hg : Box w g t #[]) : w.ownsRow base t 1 (.slice (some ⟨g, 0, none⟩) 0 0) 0 [] :=
  ⟨rfl, .inr ⟨g, 0, #[], rfl, hb, hg, Nat.le_refl _, Nat.zero_le _, rfl, rfl⟩⟩
theorem btw_grown {lo hi : Nat} {w w1 w2 : World} {r : Option Nat} (h : Btw lo hi w w1) (hg : w1.grownBy w2 r) (hr : ∀ k, r = some k → w.heap.size ≤ k) : Btw lo hi w w2 :=
  ⟨hg.os.trans h.os, hg.tape.trans h.tape, hg.output.trans h.output, Nat.le_trans h.size hg.size, fun k hk ho => (hg.block k (Nat.lt_of_lt_of_le hk h.size) (fun e => by have := hr k e.symm; omega)).trans (h.block k hk ho)⟩
set_option maxRecDepth 100000 in
theorem infoBy : ∃ i : TypeInfo, Try.prog.info? 5 = some i ∧ i.zero = some (.int .u8 0) ∧ i.size = 1 ∧ i.bytes = 1 := ⟨_, rfl, rfl, rfl, rfl⟩
set_option maxRecDepth 100000 in
theorem infoIx : ∃ i : TypeInfo, Try.prog.info? 3 = some i ∧ i.zero = some (.int .i64 0) ∧ i.size = 1 ∧ i.bytes = 8 := ⟨_, rfl, rfl, rfl, rfl⟩
theorem owns_form {w : World} {base n : Nat} {e : TypeId} {size : Nat} {v : Value} {xs : List Value} (h : w.ownsRow base e size v n xs) (hn : 0 < n) : ∃ g cap, v = .slice (some ⟨g, 0, none⟩) n cap ∧ base ≤ g ∧ g < w.heap.size := by
  rcases h.2 with ⟨_, h0⟩ | ⟨g, cap, cur, hv, hb, hg, _⟩
  · omega
  · refine ⟨g, cap, hv, hb, ?_⟩
    rcases Nat.lt_or_ge g w.heap.size with hlt | hge
    · exact hlt
    · rw [Array.getElem?_eq_none hge] at hg; cases hg
theorem ownBlock_ge1 {w : World} {base n : Nat} {e : TypeId} {size g cap : Nat} {xs : List Value} (h : w.ownsRow base e size (.slice (some ⟨g, 0, none⟩) n cap) n xs) : ∀ k, (Value.slice (some ⟨g, 0, none⟩) n cap).ownBlock = some k → base ≤ k := by
  intro k hk
  obtain ⟨h1, ⟨h0, _⟩ | ⟨g', cap', cur, hv, q1, q2⟩⟩ := h
  · simp at h0
  · injection hv with hv; injection hv with hv; injection hv with hv; subst hv; simp [Value.ownBlock] at hk; omega
theorem map_snoc {α β : Type} (f : α → β) (xs : List α) (x : α) : xs.map f ++ [f x] = (xs ++ [x]).map f := by simp
/-- The cells of a row that is owned. -/
theorem owns_cells {w : World} {base n : Nat} {e : TypeId} {g cap : Nat} {k : IntKind} {xs : List Int} (h : w.ownsRow base e 1 (.slice (some ⟨g, 0, none⟩) n cap) n (xs.map (Value.int k))) : ∀ i, i < n → w.cell? ⟨g, 0 + i, none⟩ = some (.int k (xs.getD i 0)) := by
  obtain ⟨h1, h0 | ⟨g', cap', cur, hv, q1, q2, q3, q4, q5, q6⟩⟩ := h
  · simp at h0
  · injection hv with hv; injection hv with hv; injection hv with hv; subst hv
    intro i hi
    simp at h1
    rw [Nat.zero_add, cell_of_row w g i cur e (0, 0) q2]
    have : (cur.toList.take (n * 1))[i]? = (xs.map (Value.int k))[i]? := by rw [q6]
    rw [List.getElem?_take, if_pos (by omega), Array.getElem?_toList] at this
    rw [this, List.getElem?_map, List.getElem?_eq_getElem (by omega), List.getD_eq_getElem?_getD, List.getElem?_eq_getElem (by omega)]
    rfl

set_option maxRecDepth 100000 in
set_option maxHeartbeats 4000000 in
theorem srcSome (N : Nat) (b : Nat) (A : Option Addr) (n c : Nat) (zs : List Nat) (K : Nat) (w : World) (hN : N ≤ 1000) (hK : K ≤ 1000000) (h : Src w b A n c zs K) :
    Calls Try.prog 96 #[.pointer (some ⟨b, 0, none⟩), .int .i64 (N : Nat)] w fun e w' => ∃ t : ByteArray, e = .returned (.string t) ∧ t.size = N ∧ Hid (Src w' b A n c zs (K + N)) ∧ Btw b (b + 1) w w' := by
  have hlt : b < w.heap.size := h.lt
  obtain ⟨i0, hi0, hz0, hz1, hz2⟩ := infoBy
  have HI := Lib.hid (And.intro hi0 (And.intro hz0 (And.intro hz1 hz2)))
  clear hi0 hz0 hz1 hz2
  have hb0 := alloc_below w (.cells #[] 5)
  have HS0 := Lib.hid (h.below hb0 hlt)
  have HB0 : Hid (Btw b (b + 1) w (w.alloc (.cells #[] 5))) := Lib.hid ((Btw.refl b (b + 1) w).alloc _)
  have HO0 := Lib.hid (owns_empty (base := w.heap.size) (Nat.le_refl _) (Box.new w 5 #[]))
  clear h hb0
  go_enter Try.func96, Try.ntmps96
  go_wp2
  generalize w.alloc (.cells #[] 5) = w0 at HS0 HB0 HO0 ⊢
  go_loopw [5, 6] (fun o q wr => ∃ (k g cap : Nat) (xs : List Int), k ≤ N ∧ o = .slice (some ⟨g, 0, none⟩) k cap ∧ q = .int .i64 k ∧ Hid (xs.length = k) ∧ Hid (wr.ownsRow w.heap.size 5 1 (.slice (some ⟨g, 0, none⟩) k cap) k (xs.map (Value.int .u8))) ∧ Hid (Src wr b A n c zs (K + k)) ∧ Btw b (b + 1) w wr) (fun _ q _ => N - (intOf q).toNat)
  case atStart => exact ⟨0, _, _, [], Nat.zero_le _, rfl, rfl, Lib.hid rfl, HO0, HS0, HB0.out⟩
  case round =>
    obtain ⟨k, g, cap, xs, hk, rfl, rfl, HL, HO, HS, hbw⟩ := hrel
    by_cases hkn : k < N
    · have hi : (k : Int) < (N : Int) := by omega
      have HC := Lib.hid (srcNext 26 b A n c zs (K + k) wr (by omega) (by omega) (by omega) HS.out)
      go_wp2_with fail
      refine HC.out.mono ?_
      rintro e w1 ⟨v, rfl, hv, S1, hb1⟩
      clear HC HS
      have HO1 := Lib.hid (owns_keep HO.out (fun j h1 h2 => hb1.block j h2 (.inr (by omega))))
      have HB1 := Lib.hid (hbw.trans hb1)
      have k2 := Lib.hid (alloc_below w1 (.cells #[.int .u8 (97 + (v : Int))] 5))
      have HOw := Lib.hid (owns_keep HO1.out (fun j _ h2 => k2.out.block j h2))
      have HNw : Hid (∀ j u, [Value.int .u8 (97 + (v : Int))][j]? = some u → (w1.alloc (.cells #[.int .u8 (97 + (v : Int))] 5)).cell? ((⟨w1.heap.size, 0, none⟩ : Addr).add j) = some u) := Lib.hid (fun j u hj => by
        have hB := Box.new w1 5 #[.int .u8 (97 + (v : Int))]
        match j, hj with
        | 0, hj => simp at hj; subst hj; exact hB.cell 0 rfl)
      have hw1 : w.heap.size ≤ w1.heap.size := HB1.out.size
      go_wp2_with (at_builtin; refine wpList_append_own _ rfl (.tmp 13) (.tmp 18) 45 rfl w.heap.size 5 i0 (.int .u8 0) 1 1 Try.underlying45 HI.out.1 HI.out.2.1 HI.out.2.2.1 HI.out.2.2.2 rfl (by decide) _ k (xs.map (Value.int .u8)) rfl ?hown ⟨w1.heap.size, 0, none⟩ 1 1 [.int .u8 (97 + (v : Int))] rfl rfl ?hnews ?hone ?h63 ?hby ?hbase ?_)
      case hown => exact HOw.out
      case hnews => exact HNw.out
      case hone => intro u hu; simp at hu; subst hu; rfl
      case h63 => unfold maxLen; omega
      case hby => omega
      case hbase => simp; omega
      intro v1 w4 hown hgr hniff
      rw [map_snoc (Value.int .u8)] at hown
      obtain ⟨gg, cap', hv1, p1, p2⟩ := owns_form hown (by omega)
      subst hv1
      have hge := ownBlock_ge1 HOw.out
      have HS4 := Lib.hid ((S1.out.below (k2.out.mono hw1) hlt).below (below_of_grown (B := w.heap.size) hgr hge (by simp; omega)) hlt)
      have HB4 := Lib.hid (btw_grown (HB1.out.alloc (.cells #[.int .u8 (97 + (v : Int))] 5)) hgr hge)
      have HO4 := Lib.hid hown
      clear hown hgr hniff hge k2 HOw HNw HO1 HB1 S1 hb1 HO
      go_wp2
      go_roundw
      case rel => exact ⟨k + 1, gg, cap', xs ++ [97 + (v : Int)], by omega, rfl, by go_num, Lib.hid (by rw [List.length_append, HL.out]; rfl), HO4, HS4, HB4.out⟩
      case measure => simp [intOf]; omega
    · have hi : ¬ (k : Int) < (N : Int) := by omega
      obtain rfl : k = N := by omega
      have hcv := (run_convert_bytes_arg (P := Try.prog) wr 45 5 Try.underlying45 Try.underlying5 g 0 k cap xs HL.out (owns_cells HO.out) 9 Try.underlying9)
      go_wp2
      refine bodyPost_ret (v := .string (strOfNums xs)) (by simp [results, Try.results96, go_sem]) rfl ?_
      exact ⟨_, rfl, by rw [strOfNums_size, HL.out], HS, hbw⟩
end Go.Proofs.Ytlfmniekbiffjaa

/- The model's source of draws: fates. -/
namespace Go.Proofs.Ytlfmniekbiffjaa
open Go.RowKit

theorem intL_of_owns {w : World} {base n : Nat} {e : TypeId} {g cap : Nat} {xs : List Int} (hl : xs.length = n) (h : w.ownsRow base e 1 (.slice (some ⟨g, 0, none⟩) n cap) n (xs.map (Value.int .i64))) : IntL w (some ⟨g, 0, none⟩) xs := fun i hi =>
  ⟨g, 0, rfl, owns_cells h i (by omega)⟩

/-- The fates that are drawn, i of them, from a count and a seed on. -/
def fatesN (zs : List Nat) : Nat → Nat → Nat → List Int
  | 0, _, _ => []
  | i + 1, k, sd => (((byteV zs k sd).1 % 3 : Nat) : Int) :: fatesN zs i (byteV zs k sd).2.1 (byteV zs k sd).2.2
def fatesX (zs : List Nat) (k sd : Nat) : List Int := fatesN zs ((byteV zs k sd).1 % 4) (byteV zs k sd).2.1 (byteV zs k sd).2.2
theorem fatesN_len (zs : List Nat) : ∀ i k sd, (fatesN zs i k sd).length = i
  | 0, _, _ => rfl
  | i + 1, k, sd => by rw [fatesN, List.length_cons, fatesN_len]
theorem fatesN_in (zs : List Nat) : ∀ i k sd, ∀ x ∈ fatesN zs i k sd, 0 ≤ x ∧ x ≤ 2
  | 0, _, _, x, h => by cases h
  | i + 1, k, sd, x, h => by
    rw [fatesN] at h
    rcases List.mem_cons.1 h with rfl | h
    · have := Nat.mod_lt (byteV zs k sd).1 (show 0 < 3 by omega); omega
    · exact fatesN_in zs i _ _ x h
theorem fatesX_len (zs : List Nat) (k sd : Nat) : (fatesX zs k sd).length ≤ 3 := by
  unfold fatesX; rw [fatesN_len]; have := Nat.mod_lt (byteV zs k sd).1 (show 0 < 4 by omega); omega
theorem fatesX_in (zs : List Nat) (k sd : Nat) : ∀ x ∈ fatesX zs k sd, 0 ≤ x ∧ x ≤ 2 := fatesN_in zs _ _ _

/-- These fates, and what else holds of the world. -/
def GivesFates (xs : List Int) (R : World → Prop) (e : Ending) (w' : World) : Prop :=
  ∃ (F : Option Addr) (nf cf : Nat), e = .returned (.slice F nf cf) ∧ Hid (xs.length = nf) ∧ Hid (IntL w' F xs) ∧ Hid (R w')

set_option maxRecDepth 100000 in
set_option maxHeartbeats 4000000 in
theorem srcFates (b : Nat) (A : Option Addr) (n c : Nat) (zs : List Nat) (k0 s0 : Nat) (w : World) (hK : k0 ≤ 1000000) (h : SrcX w b A n c zs k0 s0) :
    Calls Try.prog 65 #[.pointer (some ⟨b, 0, none⟩)] w (GivesFates (fatesX zs k0 s0) (fun w' => Btw b (b + 1) w w')) := by
  have hlt : b < w.heap.size := h.1.lt
  obtain ⟨T, hT0⟩ : ∃ T, T = fatesX zs k0 s0 := ⟨_, rfl⟩
  rw [← hT0]
  have HT0 := Lib.hid hT0
  clear hT0
  obtain ⟨i0, hi0, hz0, hz1, hz2⟩ := infoIx
  have HI := Lib.hid (And.intro hi0 (And.intro hz0 (And.intro hz1 hz2)))
  clear hi0 hz0 hz1 hz2
  have hb0 := alloc_below w (.cells #[] 3)
  have HS0 := Lib.hid (h.below hb0 hlt)
  have HB0 : Hid (Btw b (b + 1) w (w.alloc (.cells #[] 3))) := Lib.hid ((Btw.refl b (b + 1) w).alloc _)
  have HO0 := Lib.hid (owns_empty (base := w.heap.size) (Nat.le_refl _) (Box.new w 3 #[]))
  clear h hb0
  have HC := Lib.hid (srcNextX 4 b A n c zs k0 s0 _ (by omega) (by omega) (by omega) HS0.out)
  go_enter Try.func65, Try.ntmps65
  go_wp2_with fail
  refine HC.out.mono ?_
  rintro e w0 ⟨rfl, S0, hb0⟩
  have HT : Hid (T = fatesN zs ((byteV zs k0 s0).1 % 4) (byteV zs k0 s0).2.1 (byteV zs k0 s0).2.2) := Lib.hid HT0.out
  clear HT0
  have hv0 : (byteV zs k0 s0).1 % 4 < 4 := Nat.mod_lt _ (by omega)
  have hk1 : (byteV zs k0 s0).2.1 = k0 + 1 := byteV_at _ _ _
  generalize (byteV zs k0 s0).1 % 4 = v0 at HT hv0 ⊢
  generalize (byteV zs k0 s0).2.1 = k1 at HT S0 hk1
  generalize (byteV zs k0 s0).2.2 = s1 at HT S0
  have HB0' := Lib.hid (HB0.out.trans hb0)
  have HO0' := Lib.hid (owns_keep HO0.out (fun j h1 h2 => hb0.block j h2 (.inr (by omega))))
  clear HC HS0 HB0 HO0 hb0
  go_wp2
  go_loopw [3, 4] (fun o q wr => ∃ (i k g cap : Nat) (xs : List Int), i + k ≤ 3 ∧ o = .slice (some ⟨g, 0, none⟩) k cap ∧ q = .int .i64 i ∧ Hid (xs.length = k) ∧ Hid (wr.ownsRow w.heap.size 3 1 (.slice (some ⟨g, 0, none⟩) k cap) k (xs.map (Value.int .i64))) ∧ Hid (∃ kk ss, kk ≤ 1000000 + 1 + k ∧ SrcX wr b A n c zs kk ss ∧ T = xs ++ fatesN zs i kk ss) ∧ Btw b (b + 1) w wr) (fun _ q _ => (intOf q).toNat)
  case atStart => exact ⟨v0, 0, _, _, [], by omega, rfl, rfl, Lib.hid rfl, HO0', Lib.hid ⟨k1, s1, by omega, S0.out, by rw [HT.out]; rfl⟩, HB0'.out⟩
  case round =>
    obtain ⟨i, k, g, cap, xs, hk, rfl, rfl, HL, HO, HS, hbw⟩ := hrel
    by_cases hkn : 0 < i
    · have hi : (0 : Int) < (i : Int) := by omega
      obtain ⟨kk, sd, hkk, hx, hT⟩ := HS.out
      have HC := Lib.hid (srcNextX 3 b A n c zs kk sd wr (by omega) (by omega) (by omega) hx)
      obtain ⟨j, rfl⟩ : ∃ j, i = j + 1 := ⟨i - 1, by omega⟩
      have HT2 : Hid (T = xs ++ (((byteV zs kk sd).1 % 3 : Nat) : Int) :: fatesN zs j (byteV zs kk sd).2.1 (byteV zs kk sd).2.2) := Lib.hid (by rw [hT, fatesN])
      have hk2 : (byteV zs kk sd).2.1 = kk + 1 := byteV_at _ _ _
      clear hx hT
      go_wp2_with fail
      refine HC.out.mono ?_
      rintro e w1 ⟨rfl, S1, hb1⟩
      generalize (byteV zs kk sd).1 % 3 = v at HT2 ⊢
      generalize (byteV zs kk sd).2.1 = k2 at HT2 S1 hk2
      generalize (byteV zs kk sd).2.2 = s2 at HT2 S1
      clear HC HS
      have HO1 := Lib.hid (owns_keep HO.out (fun j h1 h2 => hb1.block j h2 (.inr (by omega))))
      have HB1 := Lib.hid (hbw.trans hb1)
      have k2 := Lib.hid (alloc_below w1 (.cells #[.int .i64 (v : Int)] 3))
      have HOw := Lib.hid (owns_keep HO1.out (fun j _ h2 => k2.out.block j h2))
      have HNw : Hid (∀ j u, [Value.int .i64 (v : Int)][j]? = some u → (w1.alloc (.cells #[.int .i64 (v : Int)] 3)).cell? ((⟨w1.heap.size, 0, none⟩ : Addr).add j) = some u) := Lib.hid (fun j u hj => by
        have hB := Box.new w1 3 #[.int .i64 (v : Int)]
        match j, hj with
        | 0, hj => simp at hj; subst hj; exact hB.cell 0 rfl)
      have hw1 : w.heap.size ≤ w1.heap.size := HB1.out.size
      go_wp2_with (at_builtin; refine wpList_append_own _ rfl (.tmp 12) (.tmp 15) 39 rfl w.heap.size 3 i0 (.int .i64 0) 1 8 Try.underlying39 HI.out.1 HI.out.2.1 HI.out.2.2.1 HI.out.2.2.2 rfl (by decide) _ k (xs.map (Value.int .i64)) rfl ?hown ⟨w1.heap.size, 0, none⟩ 1 1 [.int .i64 (v : Int)] rfl rfl ?hnews ?hone ?h63 ?hby ?hbase ?_)
      case hown => exact HOw.out
      case hnews => exact HNw.out
      case hone => intro u hu; simp at hu; subst hu; rfl
      case h63 => unfold maxLen; omega
      case hby => omega
      case hbase => simp; omega
      intro v1 w4 hown hgr hniff
      rw [map_snoc (Value.int .i64)] at hown
      obtain ⟨gg, cap', hv1, p1, p2⟩ := owns_form hown (by omega)
      subst hv1
      have hge := ownBlock_ge1 HOw.out
      have HS4 := Lib.hid ((S1.out.below (k2.out.mono hw1) hlt).below (below_of_grown (B := w.heap.size) hgr hge (by simp; omega)) hlt)
      have HB4 := Lib.hid (btw_grown (HB1.out.alloc (.cells #[.int .i64 (v : Int)] 3)) hgr hge)
      have HO4 := Lib.hid hown
      clear hown hgr hniff hge k2 HOw HNw HO1 HB1 S1 hb1 HO
      go_wp2
      go_roundw
      case rel => exact ⟨j, k + 1, gg, cap', xs ++ [(v : Int)], by omega, rfl, by go_num, Lib.hid (by rw [List.length_append, HL.out]; rfl), HO4, Lib.hid ⟨k2, s2, by omega, HS4.out, by rw [HT2.out]; simp⟩, HB4.out⟩
      case measure => (simp [intOf] <;> omega)
    · have hi : ¬ (0 : Int) < (i : Int) := by omega
      go_wp2
      refine bodyPost_ret (v := .slice (some ⟨g, 0, none⟩) k cap) (by simp [results, Try.results65, go_sem]) rfl ?_
      obtain ⟨kk, sd, _, _, hT⟩ := HS.out
      obtain rfl : i = 0 := by omega
      have hTx : T = xs := by rw [hT, fatesN, List.append_nil]
      rw [hTx]
      exact ⟨_, _, _, rfl, HL, Lib.hid (intL_of_owns HL.out HO.out), Lib.hid hbw⟩
end Go.Proofs.Ytlfmniekbiffjaa

/- Contracts of both NewDisk. -/
namespace Go.Proofs.Ytlfmniekbiffjaa
open Go.RowKit

def zeros48 : Array Value := madeCells #[.string ByteArray.empty] 48
def newSs : List ByteArray := List.replicate 48 ByteArray.empty
set_option maxRecDepth 100000 in
theorem make48 (W : World) : (Instr.makeSlice 22 (.int .i64 48) (.int .i64 48)).run Try.prog W = .ok (.slice (some ⟨W.heap.size, 0, none⟩) 48 48) (W.alloc (.cells zeros48 9)) :=
  run_make_row' (P := Try.prog) 22 9 (.string ByteArray.empty) 16 Try.underlying22 infoS rfl .i64 .i64 48 (by omega) (by omega) W
theorem newSs_at (i : Nat) (h : i < 48) : newSs.getD i ByteArray.empty = ByteArray.empty := by
  unfold newSs
  rw [List.getD_eq_getElem?_getD, List.getElem?_replicate, if_pos h]; rfl
theorem newSs_len : newSs.length = 48 := by unfold newSs; rw [List.length_replicate]
theorem row48 (W : World) : (W.alloc (.cells zeros48 9)).rowIs W.heap.size 9 48 (fun i => .string (newSs.getD i ByteArray.empty)) :=
  (World.rowIs_made W (.string ByteArray.empty) 48 9).congr (fun i hi => by rw [newSs_at i hi])

set_option maxRecDepth 100000 in
theorem specNew (w : World) : Calls Try.prog 108 #[] w (GivesDisk newSs [] w) := by
  have hmk := make48
  go_enter Try.func108, Try.ntmps108
  go_wp2
  refine bodyPost_ret (v := .agg #[.slice (some ⟨w.heap.size + 1, 0, none⟩) 48 48, .slice (some ⟨w.heap.size + 1 + 1, 0, none⟩) 0 0]) (by simp [results, Try.results108, go_sem]) rfl ?_
  refine ⟨_, _, _, _, _, _, rfl, Lib.hid newSs_len, Lib.hid rfl, Lib.hid ?_, Lib.hid (.inl rfl), (((Below.refl _ _).alloc (Nat.le_refl _) _).alloc (by simp) _).alloc (by simp; omega) _⟩
  have hr := (row48 (w.alloc (.cells #[.slice (some ⟨w.heap.size + 1, 0, none⟩) 48 48, .slice (some ⟨w.heap.size + 1 + 1, 0, none⟩) 0 0] 30))).alloc (.cells #[] 87)
  rw [World.size_alloc] at hr
  exact own_of_rowS newSs_len hr (by omega) (by first | (simp; done) | (simp; omega))
set_option maxRecDepth 100000 in
theorem implNew (w : World) : Calls Try.prog 71 #[] w (GivesDisk newSs [] w) := by
  have hmk := make48
  go_enter Try.func71, Try.ntmps71
  go_wp2
  refine bodyPost_ret (v := .agg #[.slice (some ⟨w.heap.size + 1, 0, none⟩) 48 48, .slice none 0 0]) (by simp [results, Try.results71, go_sem]) rfl ?_
  refine ⟨_, _, _, _, _, _, rfl, Lib.hid newSs_len, Lib.hid rfl, Lib.hid ?_, Lib.hid (.inl rfl), ((Below.refl _ _).alloc (Nat.le_refl _) _).alloc (by simp) _⟩
  have hr := row48 (w.alloc (.cells #[.slice (some ⟨w.heap.size + 1, 0, none⟩) 48 48, .slice none 0 0] 30))
  rw [World.size_alloc] at hr
  exact own_of_rowS newSs_len hr (by omega) (by first | (simp; done) | (simp; omega))
end Go.Proofs.Ytlfmniekbiffjaa

/- The model's source of draws: a disk. -/
namespace Go.Proofs.Ytlfmniekbiffjaa
open Go.RowKit

theorem btw_below {lo hi B : Nat} {w w1 w2 : World} (h : Btw lo hi w w1) (hb : Below B w1 w2) (hB : w.heap.size ≤ B) : Btw lo hi w w2 :=
  ⟨hb.os.trans h.os, hb.tape.trans h.tape, hb.output.trans h.output, Nat.le_trans h.size hb.size, fun k hk ho => (hb.block k (Nat.lt_of_lt_of_le hk hB)).trans (h.block k hk ho)⟩
theorem OwnS.far {w : World} {lo hi D : Nat} {A : Option Addr} {ss : List ByteArray} {cs : Array Value} (h : OwnS w lo hi A ss) (X : Box w D 30 cs) (j : Nat) (u : Value) : OwnS (w.setCell ⟨D, j, none⟩ u) lo hi A ss := by
  rcases h with e | ⟨b, m, f, e, q1, q2, q3, q4, q5⟩
  · exact .inl e
  · exact .inr ⟨b, m, f, e, q1, q2, q3, q4.setOther (X.ne q4 (by decide)).symm u, q5⟩
theorem OwnW.far {w : World} {lo hi D : Nat} {A : Option Addr} {ws : List (Int × ByteArray)} {cs : Array Value} (h : OwnW w lo hi A ws) (X : Box w D 30 cs) (j : Nat) (u : Value) : OwnW (w.setCell ⟨D, j, none⟩ u) lo hi A ws := by
  rcases h with e | ⟨b, m, f, e, q1, q2, q3, q4, q5⟩
  · exact .inl e
  · exact .inr ⟨b, m, f, e, q1, q2, q3, q4.setOther (X.ne q4 (by decide)).symm u, q5⟩

/-- A variable that holds a disk at D, an empty one at R, rows at lo or above. -/
structure DK (lo R D : Nat) (A : Option Addr) (n c : Nat) (C : Option Addr) (m d : Nat) (ss : List ByteArray) (ws : List (Int × ByteArray)) (w : World) : Prop where
  x : Box w D 30 #[.slice A n c, .slice C m d]
  y : Box w R 30 #[.slice none 0 0, .slice none 0 0]
  s : OwnS w lo w.heap.size A ss
  r : OwnW w lo w.heap.size C ws
theorem DK.btw {lo b R D : Nat} {A : Option Addr} {n c : Nat} {C : Option Addr} {m d : Nat} {ss : List ByteArray} {ws : List (Int × ByteArray)} {w w' : World} (h : DK lo R D A n c C m d ss ws w) (hb : Btw b (b + 1) w w') (h1 : b < lo) (h2 : lo ≤ R) (h3 : lo ≤ D) : DK lo R D A n c C m d ss ws w' :=
  ⟨h.x.btw hb (.inr (by omega)), h.y.btw hb (.inr (by omega)), (h.s.btw hb (.inr (by omega))).wide (Nat.le_refl _) hb.size, (h.r.btw hb (.inr (by omega))).wide (Nat.le_refl _) hb.size⟩
theorem DK.step {lo R D : Nat} {A : Option Addr} {n c : Nat} {C : Option Addr} {m d : Nat} {ss : List ByteArray} {ws : List (Int × ByteArray)} {w w' : World} (h : DK lo R D A n c C m d ss ws w) (hb : Below w.heap.size w w') : DK lo R D A n c C m d ss ws w' :=
  ⟨h.x.step hb, h.y.step hb, (h.s.btw (Btw.of_below hb 0 0) (.inr (Nat.zero_le _))).wide (Nat.le_refl _) hb.size, (h.r.btw (Btw.of_below hb 0 0) (.inr (Nat.zero_le _))).wide (Nat.le_refl _) hb.size⟩
theorem DK.store {lo R D : Nat} {A : Option Addr} {n c : Nat} {C : Option Addr} {m d : Nat} {ss : List ByteArray} {ws : List (Int × ByteArray)} {w : World} (h : DK lo R D A n c C m d ss ws w) (hne : R ≠ D) {A2 : Option Addr} {n2 c2 : Nat} {C2 : Option Addr} {m2 d2 : Nat} {ss2 : List ByteArray} {ws2 : List (Int × ByteArray)} (S2 : OwnS w lo w.heap.size A2 ss2) (R2 : OwnW w lo w.heap.size C2 ws2) :
    DK lo R D A2 n2 c2 C2 m2 d2 ss2 ws2 ((w.setCell ⟨D, 0, none⟩ (.slice A2 n2 c2)).setCell ⟨D, 1, none⟩ (.slice C2 m2 d2)) := by
  have es : ((w.setCell ⟨D, 0, none⟩ (.slice A2 n2 c2)).setCell ⟨D, 1, none⟩ (.slice C2 m2 d2)).heap.size = w.heap.size := by simp [World.setCell]
  have x1 := h.x.set 0 (.slice A2 n2 c2)
  exact ⟨x1.set 1 (.slice C2 m2 d2), (h.y.far (p := ⟨D, 0, none⟩) hne _).far (p := ⟨D, 1, none⟩) hne _, by rw [es]; exact (S2.far h.x 0 _).far x1 1 _, by rw [es]; exact (R2.far h.x 0 _).far x1 1 _⟩

theorem ok_new : Ok newSs [] := by
  refine ⟨by simp [newSs], by simp, fun s hs => ?_, (fun x hx => by cases hx), (fun x hx => by cases hx)⟩
  simp [newSs] at hs
  subst hs
  simp
theorem ok_write {ss : List ByteArray} {ws : List (Int × ByteArray)} (h : Ok ss ws) (hm : ws.length < 60) (a : Int) (t : ByteArray) (h0 : 0 ≤ a) (h1 : a ≤ 47) (ht : t.size ≤ 100) : Ok ss (ws ++ [(a, t)]) :=
  ⟨h.n48, by simp; omega, h.small, fun x hx => by
    rcases List.mem_append.1 hx with hx | hx
    · exact h.smallW x hx
    · simp at hx; subst hx; exact ht, fun x hx => by
    rcases List.mem_append.1 hx with hx | hx
    · exact h.at_ x hx
    · simp at hx; subst hx; exact ⟨h0, h1⟩⟩
theorem ok_settle {ss : List ByteArray} {ws : List (Int × ByteArray)} (h : Ok ss ws) (fates : List Int) (k : Nat) (hk : k ≤ ws.length) : Ok (settleN ss ws fates k) [] :=
  ⟨by rw [settleN_len]; exact h.n48, by simp, settleN_small ss ws fates h.small h.smallW k hk, (fun x hx => by cases hx), (fun x hx => by cases hx)⟩

/-- What the loop keeps. -/
def DiskInv (w : World) (b R D : Nat) (A : Option Addr) (n c : Nat) (zs : List Nat) (K i : Nat) (wr : World) : Prop :=
  ∃ A' n' c' C' m' d' ss ws, Hid (DK w.heap.size R D A' n' c' C' m' d' ss ws wr) ∧ Hid (ss.length = n') ∧ Hid (ws.length = m') ∧ m' + i ≤ 8 ∧ Hid (Ok ss ws) ∧ Hid (Src wr b A n c zs (K + 1 + 9 * (8 - i))) ∧ Btw b (b + 1) w wr

/-- A drawn disk: valid, with at most eight writes. -/
def GivesDrawn (w : World) (R : World → Prop) (e : Ending) (w' : World) : Prop :=
  ∃ ss ws A n c C m d, Hid (Ok ss ws) ∧ m ≤ 8 ∧ e = .returned (.agg #[.slice A n c, .slice C m d]) ∧ Hid (ss.length = n) ∧ Hid (ws.length = m) ∧ Hid (OwnS w' w.heap.size w'.heap.size A ss) ∧ Hid (OwnW w' w.heap.size w'.heap.size C ws) ∧ Hid (R w')

end Go.Proofs.Ytlfmniekbiffjaa

/- Contract of the model's l02Lay: the writes of a list, one after the other, into the cache. -/
namespace Go.Proofs.Ytlfmniekbiffjaa
open Go.RowKit

/-- A disk with the argument's own sectors, and these writes in its cache. -/
def GivesLay (A : Option Addr) (n c m : Nat) (ws : List (Int × ByteArray)) (w : World) (e : Ending) (w' : World) : Prop :=
  ∃ C' d', e = .returned (.agg #[.slice A n c, .slice C' m d']) ∧ Hid (WrL w' C' ws) ∧ Below w.heap.size w w'

theorem wrl_far {w : World} {D : Nat} {t : TypeId} {C : Option Addr} {ws : List (Int × ByteArray)} {p q : Value} (hp : ∀ z, p ≠ .int .i64 z) (hq : ∀ z, q ≠ .int .i64 z) (g : WrL w C ws) (X : Box w D t #[p, q]) (j : Nat) (u : Value) : WrL (w.setCell ⟨D, j, none⟩ u) C ws := fun i hi => by
  obtain ⟨b, off, hC, h1, h2⟩ := g i hi
  have hne : b ≠ D := by
    rintro rfl
    have hx : w.cell? ⟨b, off + i * 2, none⟩ = (#[p, q] : Array Value)[off + i * 2]? := by
      unfold Box at X; simp [World.cell?, X]
    rw [h1] at hx
    match off + i * 2, hx with
    | 0, hx => simp at hx; exact hp _ hx.symm
    | 1, hx => simp at hx; exact hq _ hx.symm
    | k + 2, hx => simp at hx
  have he := Below.heap_setCell w ⟨D, j, none⟩ u b hne
  refine ⟨b, off, hC, ?_, ?_⟩
  · rw [← h1]; simp only [World.cell?, he]
  · rw [← h2]; simp only [World.cell?, he]

set_option maxRecDepth 100000 in
set_option maxHeartbeats 4000000 in
theorem l02Lay (A C B : Option Addr) (n c m d k f : Nat) (ws ls : List (Int × ByteArray)) (w : World) (hm : ws.length = m) (hk : ls.length = k) (hmk : m + k ≤ 60) (g : WrL w C ws) (gl : WrL w B ls) :
    Calls Try.prog 78 #[.agg #[.slice A n c, .slice C m d], .slice B k f] w (GivesLay A n c (m + k) (ws ++ ls) w) := by
  have HM := Lib.hid hm
  have HK := Lib.hid hk
  have HL := Lib.hid (fun W (hb : Below w.heap.size w W) => gl.below hb)
  obtain ⟨W0, hW0⟩ : ∃ W0, W0 = ((w.alloc (.cells #[.slice A n c, .slice C m d] 30)).alloc (.cells #[.slice none 0 0, .slice none 0 0] 30)) := ⟨_, rfl⟩
  have hb0 : Below w.heap.size w W0 := by rw [hW0]; exact bt (alloc_below _ _) (alloc_below _ _)
  have X0 : Hid (Box W0 w.heap.size 30 #[.slice A n c, .slice C m d]) := Lib.hid (by rw [hW0]; exact (Box.new _ _ _).alloc _)
  have Y0 : Hid (Box W0 (w.heap.size + 1) 30 #[.slice none 0 0, .slice none 0 0]) := Lib.hid (by rw [hW0]; simpa using Box.new (w.alloc (.cells #[.slice A n c, .slice C m d] 30)) 30 #[.slice none 0 0, .slice none 0 0])
  have G0 := Lib.hid (g.below hb0)
  have HW0 := Lib.hid hW0
  clear hm hk g gl hW0
  go_enter Try.func78, Try.ntmps78
  go_wp2
  rw [← HW0.out]
  clear HW0
  go_loopw [5] (fun i wr => ∃ (j : Nat) (C' : Option Addr) (d' : Nat), j ≤ k ∧ i = .int .i64 (j : Int) ∧ Hid (Box wr w.heap.size 30 #[.slice A n c, .slice C' (m + j) d']) ∧ Hid (Box wr (w.heap.size + 1) 30 #[.slice none 0 0, .slice none 0 0]) ∧ Hid (WrL wr C' (ws ++ ls.take j)) ∧ Below w.heap.size w wr) (fun i _ => k - (intOf i).toNat)
  case atStart => exact ⟨0, C, d, Nat.zero_le _, rfl, X0, Y0, Lib.hid (by simpa using G0.out), hb0⟩
  case round =>
    clear X0 Y0 G0 hb0
    obtain ⟨j, C', d', hj, rfl, X, Y, G, hbw⟩ := hrel
    have f0 := X.out.cell 0 rfl
    have f1 := X.out.cell 1 rfl
    by_cases hlt : j < k
    · have HT : Hid (ws ++ ls.take (j + 1) = (ws ++ ls.take j) ++ [ls.getD j (0, ByteArray.empty)]) := Lib.hid (by
        have hjl : j < ls.length := by rw [HK.out]; exact hlt
        rw [List.take_succ_eq_append_getElem hjl, List.append_assoc]
        simp [List.getD, List.getElem?_eq_getElem hjl])
      have HN : Hid ((ws ++ ls.take j).length = m + j) := Lib.hid (by have := HM.out; have := HK.out; simp; omega)
      obtain ⟨b, off, hB, hc1, hc2⟩ := (HL.out wr hbw) j (by rw [HK.out]; exact hlt)
      subst hB
      generalize ls.getD j (0, ByteArray.empty) = p at hc1 hc2 HT
      obtain ⟨a, t⟩ := p
      dsimp only at hc1 hc2
      generalize ws ++ ls.take j = rs at HT HN G
      have hi : (j : Int) < (k : Int) := by omega
      have h60 : m + j ≤ 60 := by omega
      have h6 : Below wr.heap.size wr wr.drew := (Below.refl _ _).drew
      go_wp2
      go_region_with (go_at_call 79; refine (l01Write A C' n c (m + j) d' rs a t wr.drew HN.out h60 (G.out.below h6)).mono ?_; rintro e wd ⟨C2, d2, rfl, RW, hbd⟩; have kd := bt h6 hbd; have zb := Lib.hid (X.out.step kd); have zy := Lib.hid (Y.out.step kd); have y0 := zb.out.cell 0 rfl; have y1 := zb.out.cell 1 rfl; have y2 := zb.out.frozen 0; have y3 := zb.out.frozen 1)
      all_goals
        have x1 := zb.out.set 0 (.slice A n c)
        have NX := Lib.hid (x1.set 1 (.slice C2 (m + j + 1) d2))
        have NY := Lib.hid ((zy.out.far (p := ⟨w.heap.size, 0, none⟩) (by show w.heap.size + 1 ≠ w.heap.size; omega) (.slice A n c)).far (p := ⟨w.heap.size, 1, none⟩) (by show w.heap.size + 1 ≠ w.heap.size; omega) (.slice C2 (m + j + 1) d2))
        have NG := Lib.hid ((RW.out.far zb.out 0 (.slice A n c)).far x1 1 (.slice C2 (m + j + 1) d2)).reads
        have NB := Lib.hid (((bt hbw kd).setCell (p := ⟨w.heap.size, 0, none⟩) (Nat.le_refl _) (.slice A n c)).setCell (p := ⟨w.heap.size, 1, none⟩) (Nat.le_refl _) (.slice C2 (m + j + 1) d2))
        clear x1 zb zy y0 y1 y2 y3 RW hbd kd f0 f1 hc1 hc2 X Y G
        go_wp2
        go_roundw
        case rel => exact ⟨j + 1, C2, d2, by omega, by go_num, NX, NY, Lib.hid (by rw [HT.out]; exact NG.out), NB.out⟩
        case measure => simp [intOf]; omega
    · obtain rfl : j = k := by omega
      have y0 := Y.out.cell 0 rfl
      have y1 := Y.out.cell 1 rfl
      have y2 := Y.out.frozen 0
      have y3 := Y.out.frozen 1
      have HG : Hid (WrL wr C' (ws ++ ls)) := Lib.hid (by have := G.out; rwa [List.take_of_length_le (by rw [HK.out]; exact Nat.le_refl _)] at this)
      go_wp2
      refine bodyPost_ret (v := .agg #[.slice A n c, .slice C' (m + j) d']) (by simp [results, Try.results78, go_sem, y0, y1]) rfl ?_
      exact ⟨C', d', rfl, Lib.hid (wrl_far (fun _ h => by cases h) (fun _ h => by cases h) (wrl_far (fun _ h => by cases h) (fun _ h => by cases h) HG.out Y.out 0 (.slice A n c)) (Y.out.set 0 (.slice A n c)) 1 (.slice C' (m + j) d')), below_stored hbw⟩
end Go.Proofs.Ytlfmniekbiffjaa

/- Contract of impl.split. -/
namespace Go.Proofs.Ytlfmniekbiffjaa
open Go.RowKit

set_option maxRecDepth 100000 in
theorem splitNone (w : World) :
    Calls Try.prog 48 #[.slice none 0 0] w fun e w' => e = .returned (.tuple #[.slice none 0 0, .slice none 0 0]) ∧ Below w.heap.size w w' := by
  go_enter Try.func48, Try.ntmps48
  go_wp2
  go_quiet (fail)
  go_wp2
  refine bodyPost_ret (v := .tuple #[.slice none 0 0, .slice none 0 0]) (by simp [results, Try.results48, go_sem]) rfl ?_
  exact ⟨rfl, below_drewN (Below.refl _ _) _⟩
set_option maxRecDepth 100000 in
theorem splitSome (b off k c : Nat) (w : World) (hk : k ≤ 60) (hc : k + 1 ≤ c) :
    Calls Try.prog 48 #[.slice (some ⟨b, off, none⟩) (k + 1) c] w fun e w' => e = .returned (.tuple #[.slice (some ⟨b, off, none⟩) k c, .slice (some ⟨b, off + k * 2, none⟩) 1 (c - k)]) ∧ Below w.heap.size w w' := by
  have h1 : ((k + 1 : Nat) : Int) - 1 = (k : Int) := by omega
  have h2 : max (k : Int) 0 = (k : Int) := by omega
  have h3 : ¬ (k : Int) < 0 := by omega
  have h4 : (k : Int) ≤ ((k + 1 : Nat) : Int) := by omega
  have h5 : (k : Int) ≤ (c : Int) := by omega
  have h6 : k ≤ c := by omega
  go_enter Try.func48, Try.ntmps48
  go_wp2
  go_quiet (fail)
  go_wp2
  refine bodyPost_ret (v := .tuple #[.slice (some ⟨b, off, none⟩) k c, .slice (some ⟨b, off + k * 2, none⟩) 1 (c - k)]) (by simp [results, Try.results48, go_sem]) rfl ?_
  exact ⟨rfl, below_drewN (Below.refl _ _) _⟩
end Go.Proofs.Ytlfmniekbiffjaa

/- append of a whole row onto an empty literal. -/
namespace Go.Proofs.Ytlfmniekbiffjaa
open Go.RowKit

/-- append onto an empty row without room, something: a new row. -/
theorem run_app_fresh {P : Program} (w : World) (t ty e : TypeId) (i : TypeInfo) (z : Value) (size bytes : Nat) (ht : P.underlying t = some (.slice e)) (hi : P.info? e = some i) (hz : i.zero = some z)
    (hsize : i.size = size) (hby : i.bytes = bytes) (hzs : z.cells.size = size) (hsz : 0 < size) (b : Addr)
    (A : Option Addr) (m c : Nat) (hm : 0 < m) (news : List Value) (hl : news.length = m * size) (hsrc : ∃ ad, A = some ad ∧ ∀ j u, news[j]? = some u → w.cell? (ad.add j) = some u)
    (h63 : m ≤ maxLen) (hbytes : m * bytes ≤ 140737488355328) :
    ∃ A' cap w', (Builtin.append_ #[t, t] ty #[.slice (some b) 0 0, .slice A m c]).run P w = .ok (.slice A' m cap) w' ∧ Below w.heap.size w w' ∧ w'.ownsRow w.heap.size e size (.slice A' m cap) m news := by
  obtain ⟨ad, rfl, hc⟩ := hsrc
  obtain ⟨v', w', hr, ho, hg⟩ := run_append_arg_grows (P := P) w t ty e i z size bytes ht hi hz hsize hby hzs hsz b 0 0 [] (by simp) (fun j u hj => by simp at hj) ad m c news hl hc (by omega) (by omega) (by rw [Nat.zero_add]; exact hbytes)
  rw [Nat.zero_add] at ho
  obtain ⟨hl', h0 | ⟨g, cap, cur, rfl, hrest⟩⟩ := ho
  · omega
  · exact ⟨_, cap, w', hr, (Below.refl _ _).grown hg (Nat.le_refl _) (fun k hk => by cases hk), hl', .inr ⟨g, cap, cur, rfl, hrest⟩⟩

theorem wpList_app_fresh {P : Program} {ops : Array Oper} {rest : List Oper} {o : Oper} {a : Act} {w : World} {Q : Exit → Act → World → Prop}
    (hg : o.guard = none) (s x : Operand) (t : TypeId) (hop : o.op = Op.call { callee := Callee.builtin Builtin.append, args := #[s, x], argTypes := #[t, t] })
    (e : TypeId) (z : Value) (size bytes : Nat) (ht : P.underlying t = some (.slice e)) (hi : ∃ i : TypeInfo, P.info? e = some i ∧ i.zero = some z ∧ i.size = size ∧ i.bytes = bytes) (hzs : z.cells.size = size) (hsz : 0 < size) (b : Addr) (hs : a.eval s = .slice (some b) 0 0)
    (A : Option Addr) (m c : Nat) (hm : 0 < m) (news : List Value) (hx : a.eval x = .slice A m c) (hl : news.length = m * size) (hsrc : ∃ ad, A = some ad ∧ ∀ j u, news[j]? = some u → w.cell? (ad.add j) = some u)
    (h63 : m ≤ maxLen) (hbytes : m * bytes ≤ 140737488355328)
    (h : ∀ A' cap w', Below w.heap.size w w' → Hid (w'.ownsRow w.heap.size e size (.slice A' m cap) m news) → wpList P ops Q rest (a.put o.dst (.slice A' m cap)) w') : wpList P ops Q (o :: rest) a w :=
  wpList_plain hg fun _ hK => by
    obtain ⟨i, hi, hz, hsize, hby⟩ := hi
    obtain ⟨A', cap, w', hr, h2, h3⟩ := run_app_fresh (P := P) w t o.type e i z size bytes ht hi hz hsize hby hzs hsz b A m c hm news hl hsrc h63 hbytes
    unfold Oper.wp execOp
    simp only [hop, resolve, invoke, builtin, Sem.run_bind, Sem.run_pure, Result.andThen_ok, List.map_toArray, List.map_cons, List.map_nil, hs, hx, hr]
    exact hK _ _ (h A' cap w' h2 (Lib.hid h3))
end Go.Proofs.Ytlfmniekbiffjaa
