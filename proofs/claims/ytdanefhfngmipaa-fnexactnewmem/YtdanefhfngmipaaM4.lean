/- Texts of this claim, one behind the other: RegFacts, BusOf, BusRead, ChipRead, BusDev, BusMem, BusTop. -/
import Derived.Deep.RegionHeld3
import Derived.Handy
import Derived.Test.YtdanefhfngmipaaM3
/- A region that draws its order, walked once by facts: each operation, once carried out, has its fact; a fact is kept by whatever comes behind it. -/
namespace Go.Proofs.Ytdanefhfngmipaa
open Go.RowKit

/-- The slots that a fact looks at. -/
def mask (l : List Nat) (T : Array Value) : Nat → Value := fun s => if l.contains s then T.getD s undef else undef
/-- 'bef': what must have come up before an operation (closed under itself); 'sup': the slots of its fact; 'base': slots that the region leaves alone. -/
def regOk (ops : Array Oper) (sup bef : List (List Nat)) (base : List Nat) : Bool :=
  ((List.range ops.size).all fun i => match ops[i]? with
    | none => false
    | some o => o.guard.isNone && ((o.after.all fun e => decide (e.on < i)) && (((bef.getD i []).all fun j => o.after.any fun e => Region.binds .any e && (e.on == j || (bef.getD e.on []).contains j)) &&
        ((sup.getD i []).all fun s => (List.range ops.size).all fun j => (match ops[j]? with | some oj => oj.dst != some s | none => true) || ((j == i) || (bef.getD i []).contains j))))) &&
  (base.all fun s => (List.range ops.size).all fun j => match ops[j]? with | some oj => oj.dst != some s | none => true)

section
variable {P : Program} {ops : Array Oper} {Q : Exit → Act → World → Prop} {sup bef : List (List Nat)} {base : List Nat} {a : Act}

/-- What one operation owes. -/
def StepF (P : Program) (Q : Exit → Act → World → Prop) (sup bef : List (List Nat)) (base : List Nat) (a : Act) (C : World → Prop) (F : Nat → (Nat → Value) → World → Prop) (i : Nat) (o : Oper) : Prop :=
  ∀ (T : Array Value) (W : World), T.size = a.tmps.size → (∀ s ∈ base, T.getD s undef = a.tmps.getD s undef) → C W → (∀ j ∈ bef.getD i [], F j (mask (sup.getD j []) T) W) →
    ∀ K : Act → World → Prop, Shut (∀ v W', C W' → (∀ j t, j ≠ i → F j t W → F j t W') → F i (mask (sup.getD i []) (Act.put { a with tmps := T } o.dst v).tmps) W' → K (Act.put { a with tmps := T } o.dst v) W') →
      Oper.wp P o { a with tmps := T } W K Q
def StepsF (P : Program) (Q : Exit → Act → World → Prop) (sup bef : List (List Nat)) (base : List Nat) (a : Act) (C : World → Prop) (F : Nat → (Nat → Value) → World → Prop) : Nat → List Oper → Prop
  | _, [] => True
  | i, o :: l => StepF P Q sup bef base a C F i o ∧ StepsF P Q sup bef base a C F (i + 1) l
theorem StepsF.get {C : World → Prop} {F : Nat → (Nat → Value) → World → Prop} : ∀ {l : List Oper} {i : Nat}, StepsF P Q sup bef base a C F i l → ∀ j o, l[j]? = some o → StepF P Q sup bef base a C F (i + j) o
  | [], _, _, j, o, h => by simp at h
  | o' :: l, i, hs, 0, o, h => by simp at h; subst h; exact hs.1
  | o' :: l, i, hs, j + 1, o, h => by
    have := StepsF.get hs.2 j o (by simpa using h)
    rwa [show i + 1 + j = i + (j + 1) by omega] at this

structure InvF (ops : Array Oper) (sup bef : List (List Nat)) (base : List Nat) (a : Act) (C : World → Prop) (F : Nat → (Nat → Value) → World → Prop) (L : Array Bool) (T : Array Value) (W : World) : Prop where
  size : T.size = a.tmps.size
  same : ∀ s ∈ base, T.getD s undef = a.tmps.getD s undef
  c : C W
  lsz : L.size = ops.size
  down : ∀ i, L.getD i false = true → ∀ j ∈ bef.getD i [], L.getD j false = true
  fact : ∀ i, L.getD i false = true → F i (mask (sup.getD i []) T) W

theorem getD_set_bool (L : Array Bool) (i j : Nat) (hi : i < L.size) : (L.setIfInBounds i true).getD j false = if j = i then true else L.getD j false := by
  simp only [Array.getD_eq_getD_getElem?]
  rw [Array.getElem?_setIfInBounds]
  by_cases h : i = j
  · subst h; simp [hi]
  · rw [if_neg h, if_neg (fun q => h q.symm)]
theorem getD_set_val (T : Array Value) (d s : Nat) (v : Value) (h : s ≠ d) : (T.setIfInBounds d v).getD s undef = T.getD s undef := by
  simp only [Array.getD_eq_getD_getElem?]
  rw [Array.getElem?_setIfInBounds, if_neg (fun q => h q.symm)]

theorem regOk_spec (h : regOk ops sup bef base = true) :
    (∀ (i : Nat) (o : Oper), ops[i]? = some o → o.guard = none ∧ (∀ e ∈ o.after, e.on < i) ∧ (∀ j ∈ bef.getD i [], ∃ e ∈ o.after, Region.binds .any e = true ∧ (e.on = j ∨ j ∈ bef.getD e.on [])) ∧ (∀ s ∈ sup.getD i [], ∀ (j : Nat) (oj : Oper), ops[j]? = some oj → oj.dst = some s → j = i ∨ j ∈ bef.getD i [])) ∧
    (∀ s ∈ base, ∀ (j : Nat) (oj : Oper), ops[j]? = some oj → oj.dst ≠ some s) := by
  unfold regOk at h
  rw [Bool.and_eq_true, List.all_eq_true, List.all_eq_true] at h
  refine ⟨fun i o ho => ?_, fun s hs j oj hj hd => ?_⟩
  · have hi : i < ops.size := (Array.getElem?_eq_some_iff.1 ho).1
    have := h.1 i (List.mem_range.2 hi)
    rw [ho] at this
    simp only [Bool.and_eq_true, Array.all_eq_true_iff_forall_mem, List.all_eq_true, decide_eq_true_eq, Option.isNone_iff_eq_none] at this
    obtain ⟨h1, h2, h3, h4⟩ := this
    refine ⟨h1, h2, fun j hj => ?_, fun s hs j oj hoj hd => ?_⟩
    · have := h3 j hj
      obtain ⟨e, he, hb⟩ := Array.any_eq_true'.1 this
      simp only [Bool.and_eq_true, Bool.or_eq_true, beq_iff_eq, List.contains_iff_mem] at hb
      exact ⟨e, he, hb⟩
    · have hj : j < ops.size := (Array.getElem?_eq_some_iff.1 hoj).1
      have := h4 s hs j (List.mem_range.2 hj)
      rw [hoj] at this
      simp only [hd, Bool.or_eq_true, bne_self_eq_false, beq_iff_eq, List.contains_iff_mem] at this
      simpa using this
  · have hj' : j < ops.size := (Array.getElem?_eq_some_iff.1 hj).1
    have := List.all_eq_true.1 (h.2 s hs) j (List.mem_range.2 hj')
    rw [hj] at this
    simp [hd] at this

theorem ready_nil_all {L : Array Bool} (hL : L.size = ops.size) (hlow : ∀ (i : Nat) (o : Oper), ops[i]? = some o → ∀ e ∈ o.after, e.on < i) (h : Region.ready .any ops L = []) : ∀ i, i < ops.size → L.getD i false = true := by
  intro i
  induction i using Nat.strongRecOn with
  | ind i ih =>
    intro hi
    by_cases hl : L.getD i false = true
    · exact hl
    · exfalso
      have hm : i ∈ Region.ready .any ops L := mem_ready.2 ⟨by
        simp only [Array.getD_eq_getD_getElem?] at hl ⊢
        rw [Array.getElem?_eq_getElem (by omega)] at hl ⊢
        simpa using hl, ops[i], Array.getElem?_eq_getElem hi, fun e he _ => ih e.on (hlow i _ (Array.getElem?_eq_getElem hi) e he) (by have := hlow i _ (Array.getElem?_eq_getElem hi) e he; omega)⟩
      rw [h] at hm
      cases hm

theorem wpAny_facts (hok : regOk ops sup bef base = true) (C : World → Prop) (F : Nat → (Nat → Value) → World → Prop)
    (hstep : StepsF P Q sup bef base a C F 0 ops.toList)
    (hend : ∀ T W, T.size = a.tmps.size → (∀ s ∈ base, T.getD s undef = a.tmps.getD s undef) → C W → (∀ i, i < ops.size → F i (mask (sup.getD i []) T) W) → Q .normal { a with tmps := T } W) :
    ∀ (fuel : Nat) (L : Array Bool) (T : Array Value) (W : World), InvF ops sup bef base a C F L T W → (L.toList.count false ≤ fuel) → wpAny P .any ops Q fuel L { a with tmps := T } W := by
  obtain ⟨hops, hbase⟩ := regOk_spec hok
  have hlow := fun i o ho => (hops i o ho).2.1
  have fin : ∀ L T W, InvF ops sup bef base a C F L T W → Region.ready .any ops L = [] → Q .normal { a with tmps := T } W := fun L T W I hr => hend T W I.size I.same I.c (fun i hi => I.fact i (ready_nil_all I.lsz hlow hr i hi))
  intro fuel
  induction fuel with
  | zero =>
    intro L T W I hf
    have hr : Region.ready .any ops L = [] := by
      apply List.eq_nil_iff_forall_not_mem.2
      intro j hj
      obtain ⟨h1, o, ho, _⟩ := mem_ready.1 hj
      have hjl : j < L.size := by rw [I.lsz]; exact (Array.getElem?_eq_some_iff.1 ho).1
      have : false ∈ L.toList := by
        simp only [Array.getD_eq_getD_getElem?] at h1
        rw [Array.getElem?_eq_getElem hjl] at h1
        simp only [Option.getD_some] at h1
        rw [← h1]
        simp
      have := List.count_pos_iff.2 this
      omega
    exact ⟨hr, fin L T W I hr⟩
  | succ fuel ih =>
    intro L T W I hf
    refine ⟨fin L T W I, fun i hi => ?_⟩
    obtain ⟨h1, o, ho, hall⟩ := mem_ready.1 hi
    have hil : i < L.size := by rw [I.lsz]; exact (Array.getElem?_eq_some_iff.1 ho).1
    have hlf : L.getD i false = false := by
      simp only [Array.getD_eq_getD_getElem?] at h1 ⊢
      rw [Array.getElem?_eq_getElem hil] at h1 ⊢
      simpa using h1
    obtain ⟨hg, hlo, hbf, hsp⟩ := hops i o ho
    have hbef : ∀ j ∈ bef.getD i [], L.getD j false = true := fun j hj => by
      obtain ⟨e, he, hb, q⟩ := hbf j hj
      have he' := hall e he hb
      rcases q with rfl | q
      · exact he'
      · exact I.down e.on he' j q
    have hs : StepF P Q sup bef base a C F i o := by
      have := hstep.get i o (by simpa using ho)
      simpa using this
    refine wpOp_step ho (fun K' hK => ?_)
    rw [if_pos (by simp [Region.wanted, hg])]
    refine hs T W I.size I.same I.c (fun j hj => I.fact j (hbef j hj)) K' (fun v W' hc hkeep hnew => hK _ _ ?_)
    have hnotin : ∀ k, L.getD k false = true → k ≠ i := fun k hk e => by subst e; rw [hlf] at hk; cases hk
    have hput : (Act.put { a with tmps := T } o.dst v) = { a with tmps := (Act.put { a with tmps := T } o.dst v).tmps } := by
      unfold Act.put; cases o.dst <;> rfl
    have hslot : ∀ s, o.dst ≠ some s → (Act.put { a with tmps := T } o.dst v).tmps.getD s undef = T.getD s undef := fun s hd => by
      cases hdd : o.dst with
      | none => rfl
      | some d => exact getD_set_val T d s v (fun e => hd (by rw [hdd, e]))
    rw [hput]
    refine ih _ _ W' ⟨?_, ?_, hc, by simpa using I.lsz, ?_, ?_⟩ ?_
    · rw [← I.size]; cases hdd : o.dst <;> simp [Act.put]
    · intro s hsb
      rw [hslot s (hbase s hsb i o ho)]
      exact I.same s hsb
    · intro k hk j hj
      rw [getD_set_bool L i k hil] at hk
      rw [getD_set_bool L i j hil]
      by_cases hki : k = i
      · subst hki
        rw [hbef j hj]; simp
      · rw [if_neg hki] at hk
        rw [I.down k hk j hj]; simp
    · intro k hk
      rw [getD_set_bool L i k hil] at hk
      by_cases hki : k = i
      · subst hki; exact hnew
      · rw [if_neg hki] at hk
        have hF := hkeep k _ hki (I.fact k hk)
        have hmk : mask (sup.getD k []) (Act.put { a with tmps := T } o.dst v).tmps = mask (sup.getD k []) T := by
          funext s
          unfold mask
          by_cases hsup : s ∈ sup.getD k []
          · rw [if_pos (List.contains_iff_mem.2 hsup), if_pos (List.contains_iff_mem.2 hsup)]
            refine hslot s (fun hd => ?_)
            have hko : k < ops.size := by
              rw [← I.lsz]
              apply Classical.byContradiction
              intro hn
              simp only [Array.getD_eq_getD_getElem?] at hk
              rw [Array.getElem?_eq_none (by omega)] at hk
              cases hk
            rcases (hops k _ (Array.getElem?_eq_getElem hko)).2.2.2 s hsup i o ho hd with q | q
            · exact hki q.symm
            · have := I.down k hk i q
              rw [hlf] at this
              cases this
          · rw [if_neg (fun q => hsup (List.contains_iff_mem.1 q)), if_neg (fun q => hsup (List.contains_iff_mem.1 q))]
        rw [hmk]; exact hF
    · have hset : (L.setIfInBounds i true).toList = L.toList.set i true := by simp
      rw [hset]
      have hct : (L.toList.set i true).count false + 1 = L.toList.count false := by
        have hx : L.toList[i]'(by simpa using hil) = false := by
          simp only [Array.getD_eq_getD_getElem?] at hlf
          rw [Array.getElem?_eq_getElem hil] at hlf
          simpa using hlf
        rw [List.count_set (by simpa using hil)]
        have hpos : 0 < L.toList.count false := List.count_pos_iff.2 (by rw [← hx]; exact List.getElem_mem _)
        rw [hx]
        simp only [beq_self_eq_true, if_true, show (true == false) = false from rfl, Bool.false_eq_true, if_false]
        omega
      omega

/-- The law. -/
theorem wp_region_facts {id : Nat} {w : World} (hm : P.follows .mixedOrders = true) (sup bef : List (List Nat)) (base : List Nat) (hok : regOk ops sup bef base = true) (C : World → Prop) (F : Nat → (Nat → Value) → World → Prop) (hC : C w.drew)
    (hstep : StepsF P Q sup bef base a C F 0 ops.toList)
    (hend : ∀ T W, T.size = a.tmps.size → (∀ s ∈ base, T.getD s undef = a.tmps.getD s undef) → C W → (∀ i, i < ops.size → F i (mask (sup.getD i []) T) W) → Q .normal { a with tmps := T } W) :
    (Code.region id ops true).wp P Q a w := by
  refine wp_region_any hm ?_
  have := wpAny_facts hok C F hstep hend ops.size (Array.replicate ops.size false) a.tmps w.drew ⟨rfl, fun _ _ => rfl, hC, by simp, fun i hi => ?_, fun i hi => ?_⟩ (by simp)
  · exact this
  all_goals (
    exfalso
    simp only [Array.getD_eq_getD_getElem?] at hi
    rw [Array.getElem?_replicate] at hi
    split at hi <;> simp at hi)
end
end Go.Proofs.Ytdanefhfngmipaa

/- busOf: the four devices of a memory. -/
namespace Go.Proofs.Ytdanefhfngmipaa
open Go.RowKit

theorem fold_set (cs : List Value) : ∀ (k : Nat) (z : Array Value), z.size = k + cs.length → (cs.zipIdx k).foldl (fun a (x : Value × Nat) => a.setIfInBounds x.2 x.1) z = (z.toList.take k ++ cs).toArray := by
  induction cs with
  | nil =>
    intro k z h
    simp only [List.zipIdx_nil, List.foldl_nil, List.append_nil]
    simp at h
    rw [List.take_of_length_le (by simp [h])]
  | cons c cs ih =>
    intro k z h
    simp only [List.zipIdx_cons, List.foldl_cons]
    rw [ih (k + 1) _ (by simp at h ⊢; omega)]
    congr 1
    simp only [Array.toList_setIfInBounds]
    simp at h
    rw [List.take_set, List.take_add_one]
    simp only [List.set_append, List.length_take]
    rw [show z.toList[k]? = some (z.toList[k]'(by simp; omega)) from List.getElem?_eq_getElem (by simp; omega)]
    simp
    rw [if_neg (by omega)]
    rw [show k - min k z.size = 0 by omega]
    simp
theorem fold_all (cs : List Value) (z : Array Value) (h : z.size = cs.length) : cs.toArray.zipIdx.foldl (fun a (x : Value × Nat) => a.setIfInBounds x.2 x.1) z = cs.toArray := by
  have := fold_set cs 0 z (by omega)
  rw [← Array.foldl_toList]
  simpa using this
set_option maxRecDepth 100000 in
theorem infoK0 : (Try.prog.info? 100).map (fun i => (i.zero, i.size)) = some (some (.agg zC.toArray), 273) := by kernel_rfl
set_option maxRecDepth 100000 in
theorem infoK : ∃ i : TypeInfo, Try.prog.info? 100 = some i ∧ i.zero = some (.agg zC.toArray) := by
  obtain ⟨i, hi, hzz⟩ := Option.map_eq_some_iff.1 infoK0
  simp only [Prod.mk.injEq] at hzz
  exact ⟨i, hi, hzz.1⟩
set_option maxRecDepth 100000 in
theorem sizeChip : (Try.prog.info? 86).map (·.size) = some 273 := by kernel_rfl
set_option maxRecDepth 100000 in
theorem buildK (cs : List Value) (hl : cs.length = 273) (w : World) : (Instr.build 100 #[(0, .agg cs.toArray)]).run Try.prog w = .ok (.agg cs.toArray) w := by
  obtain ⟨i, hi, hz⟩ := infoK
  obtain ⟨j, hj, hs⟩ := Option.map_eq_some_iff.1 sizeChip
  have hzv : (zeroValue 100).run Try.prog w = .ok (.agg zC.toArray) w := by simp [zeroValue, typeInfo, hi, hz]
  have hfd := fold_all cs zC.toArray (by simp [hl, zC_len])
  have hf : Instr.fill (fun x => ([(0, 273)] : List (Nat × Nat))[x]?) zC.toArray [(0, Value.agg cs.toArray)] = some cs.toArray := by
    have hfd2 : List.foldl (fun (cs : Array Value) (x : Value × Nat) => cs.setIfInBounds x.snd x.fst) zC.toArray cs.zipIdx = cs.toArray := by rw [← hfd]; simp
    simp [Instr.fill, Value.cells, zC_len, hl, hfd2]
  simp [Instr.build, hzv, Value.cells, hf, sizeOf, typeInfo, hj, hs]

/-- The devices of a memory: each behind its pointer. -/
structure BusAt (w : World) (lo g b0 b1 b2 b3 : Nat) (A0 A1 : Option Addr) (c0 c1 : Nat) (ram io zs : List Int) (gs : List Bool) (st : Int) : Prop where
  r : Box w b0 97 #[.slice A0 256 c0]
  i : Box w b1 98 #[.slice A1 32 c1]
  f : Box w b2 100 (chipC zs gs st).toArray
  o : Box w b3 102 #[]
  R : OwnI w lo g A0 ram
  I : OwnI w g w.heap.size A1 io
  l : lo ≤ b0 ∧ lo ≤ b1 ∧ lo ≤ b2 ∧ lo ≤ b3 ∧ lo ≤ g ∧ g ≤ w.heap.size
def GivesBus (ram io zs : List Int) (gs : List Bool) (st : Int) (w : World) (e : Ending) (w' : World) : Prop :=
  ∃ g b0 b1 b2 b3 A0 A1 c0 c1, e = .returned (.agg #[.pointer (some ⟨b0, 0, none⟩), .pointer (some ⟨b1, 0, none⟩), .pointer (some ⟨b2, 0, none⟩), .pointer (some ⟨b3, 0, none⟩)]) ∧ Hid (BusAt w' w.heap.size g b0 b1 b2 b3 A0 A1 c0 c1 ram io zs gs st) ∧ Below w.heap.size w w'
set_option maxRecDepth 100000 in
theorem zeroK_size : Try.zeroCells100.size = 273 := by kernel_rfl

/-- What the result's cell holds, whatever it is. -/
def YV (b : Nat) (W : World) (j : Nat) : Value := (W.cell? ⟨b, j, none⟩).getD undef
theorem YV.of {b : Nat} {W : World} {t : TypeId} {cs : Array Value} (h : Box W b t cs) (hs : cs.size = 4) (j : Nat) (hj : j < 4) : W.cell? ⟨b, j, none⟩ = some (YV b W j) := by
  have := h.cell j (Array.getElem?_eq_getElem (by omega : j < cs.size))
  unfold YV; rw [this]; rfl
/-- A world of the region: the old blocks are as they were, the result's block is there. -/
def RB (W0 : World) (m : Nat) (W : World) : Prop := Below (m + 1) W0 W ∧ m + 1 ≤ W.heap.size ∧ ∃ cs : Array Value, cs.size = 4 ∧ Box W (m + 1) 70 cs
theorem RB.alloc {W0 W : World} {m : Nat} (h : RB W0 m W) (o : Obj) : RB W0 m (W.alloc o) := by
  obtain ⟨a, q, cs, hs, b⟩ := h
  exact ⟨a.trans ((alloc_below W o).mono q), by simp; omega, cs, hs, b.alloc o⟩
theorem RB.step {W0 W W' : World} {m : Nat} (h : RB W0 m W) (k : Below W.heap.size W W') : RB W0 m W' := by
  obtain ⟨a, q, cs, hs, b⟩ := h
  exact ⟨a.trans (k.mono q), Nat.le_trans q k.size, cs, hs, b.step k⟩
theorem RB.set {W0 W : World} {m : Nat} (h : RB W0 m W) (j : Nat) (v : Value) : RB W0 m (W.setCell ⟨m + 1, j, none⟩ v) := by
  obtain ⟨a, q, cs, hs, b⟩ := h
  exact ⟨a.setCell (p := ⟨m + 1, j, none⟩) (Nat.le_refl _) v, by simpa [World.setCell] using q, _, by simpa using hs, b.set j v⟩

theorem Box.box_ne {w : World} {b b' : Nat} {t t' : TypeId} {cs cs' : Array Value} (X : Box w b t cs) (Y : Box w b' t' cs') (ht : t ≠ t') : b ≠ b' := by
  rintro rfl
  have : some (Obj.cells cs t (0, 0)) = some (Obj.cells cs' t' (0, 0)) := X.symm.trans Y
  injection this with this
  injection this with _ this
  exact ht this
theorem arr21 (T : Array Value) (h : T.size = 21) : ∃ t0 t1 t2 t3 t4 t5 t6 t7 t8 t9 t10 t11 t12 t13 t14 t15 t16 t17 t18 t19 t20 : Value, T = #[t0, t1, t2, t3, t4, t5, t6, t7, t8, t9, t10, t11, t12, t13, t14, t15, t16, t17, t18, t19, t20] := by
  obtain ⟨l⟩ := T
  match l, h with
  | [t0, t1, t2, t3, t4, t5, t6, t7, t8, t9, t10, t11, t12, t13, t14, t15, t16, t17, t18, t19, t20], _ => exact ⟨t0, t1, t2, t3, t4, t5, t6, t7, t8, t9, t10, t11, t12, t13, t14, t15, t16, t17, t18, t19, t20, rfl⟩
theorem Box.all4 {w : World} {b : Nat} {t : TypeId} {cs : Array Value} (X : Box w b t cs) (hs : cs.size = 4) (u0 u1 u2 u3 : Value) :
    Box ((((w.setCell ⟨b, 0, none⟩ u0).setCell ⟨b, 1, none⟩ u1).setCell ⟨b, 2, none⟩ u2).setCell ⟨b, 3, none⟩ u3) b t #[u0, u1, u2, u3] := by
  have := (((X.set 0 u0).set 1 u1).set 2 u2).set 3 u3
  rw [show (((cs.setIfInBounds 0 u0).setIfInBounds 1 u1).setIfInBounds 2 u2).setIfInBounds 3 u3 = #[u0, u1, u2, u3] from by
    match cs, hs with
    | ⟨[a, b, c, d]⟩, _ => rfl] at this
  exact this

/-- What each operation of busOf has done. -/
def busF (M : Nat) (s0 s1 : Value) (fl : Value) (cs : List Value) (ram io : List Int) : Nat → (Nat → Value) → World → Prop
  | 0, t, _ => t 3 = .pointer (some ⟨M, 0, none⟩)
  | 1, t, _ => t 4 = s0
  | 2, t, w => ∃ A c, t 5 = .slice A 256 c ∧ OwnI w M w.heap.size A ram
  | 3, t, _ => ∃ A c, t 5 = .slice A 256 c ∧ t 6 = .agg #[.slice A 256 c]
  | 4, t, w => ∃ b A c, t 5 = .slice A 256 c ∧ t 7 = .pointer (some ⟨b, 0, none⟩) ∧ Box w b 97 #[.slice A 256 c] ∧ M ≤ b
  | 5, t, _ => t 8 = .pointer (some ⟨M, 1, none⟩)
  | 6, t, _ => t 9 = s1
  | 7, t, w => ∃ g A c A' c', t 5 = .slice A 256 c ∧ t 10 = .slice A' 32 c' ∧ OwnI w M g A ram ∧ OwnI w g w.heap.size A' io ∧ M ≤ g ∧ g ≤ w.heap.size
  | 8, t, _ => ∃ A c, t 10 = .slice A 32 c ∧ t 11 = .agg #[.slice A 32 c]
  | 9, t, w => ∃ b A c, t 10 = .slice A 32 c ∧ t 12 = .pointer (some ⟨b, 0, none⟩) ∧ Box w b 98 #[.slice A 32 c] ∧ M ≤ b
  | 10, t, _ => t 13 = .pointer (some ⟨M, 2, none⟩)
  | 11, t, _ => t 14 = fl
  | 12, t, _ => t 15 = .agg cs.toArray
  | 13, t, _ => t 16 = .agg cs.toArray
  | 14, t, w => ∃ b, t 17 = .pointer (some ⟨b, 0, none⟩) ∧ Box w b 100 cs.toArray ∧ M ≤ b
  | 15, t, _ => t 18 = .agg #[]
  | 16, t, w => ∃ b, t 19 = .pointer (some ⟨b, 0, none⟩) ∧ Box w b 102 #[] ∧ M ≤ b
  | 17, t, _ => t 20 = .agg #[t 7, t 12, t 17, t 19]
  | 18, t, w => Box w (M + 1) 70 #[t 7, t 12, t 17, t 19]
  | _, _, _ => True
theorem busF_below {M : Nat} {s0 s1 fl : Value} {cs : List Value} {ram io : List Int} {w w' : World} (k : Below w.heap.size w w') : ∀ (j : Nat) (t : Nat → Value), busF M s0 s1 fl cs ram io j t w → busF M s0 s1 fl cs ram io j t w'
  | 0, _, h | 1, _, h | 3, _, h | 5, _, h | 6, _, h | 8, _, h | 10, _, h | 11, _, h | 12, _, h | 13, _, h | 15, _, h | 17, _, h => h
  | 2, _, ⟨A, c, e, h⟩ => ⟨A, c, e, (h.below k).wideB (Nat.le_refl _) k.size⟩
  | 4, _, ⟨b, A, c, e, e2, h, q⟩ => ⟨b, A, c, e, e2, h.step k, q⟩
  | 7, _, ⟨g, A, c, A', c', e, e2, h, h2, q, q2⟩ => ⟨g, A, c, A', c', e, e2, h.below k, (h2.below k).wideB (Nat.le_refl _) k.size, q, Nat.le_trans q2 k.size⟩
  | 9, _, ⟨b, A, c, e, e2, h, q⟩ => ⟨b, A, c, e, e2, h.step k, q⟩
  | 14, _, ⟨b, e, h, q⟩ => ⟨b, e, h.step k, q⟩
  | 16, _, ⟨b, e, h, q⟩ => ⟨b, e, h.step k, q⟩
  | 18, _, h => Box.step h k
  | n + 19, _, _ => trivial
theorem busF_store {M : Nat} {s0 s1 fl : Value} {cs : List Value} {ram io : List Int} {w : World} {ys : Array Value} (Y : Box w (M + 1) 70 ys) (i : Nat) (u : Value) : ∀ (j : Nat) (t : Nat → Value), j ≠ 18 → busF M s0 s1 fl cs ram io j t w → busF M s0 s1 fl cs ram io j t (w.setCell ⟨M + 1, i, none⟩ u)
  | 0, _, _, h | 1, _, _, h | 3, _, _, h | 5, _, _, h | 6, _, _, h | 8, _, _, h | 10, _, _, h | 11, _, _, h | 12, _, _, h | 13, _, _, h | 15, _, _, h | 17, _, _, h => h
  | 2, _, _, ⟨A, c, e, h⟩ => ⟨A, c, e, (h.farB Y (by decide) i u).wideB (Nat.le_refl _) (by simp [World.setCell])⟩
  | 4, _, _, ⟨b, A, c, e, e2, h, q⟩ => ⟨b, A, c, e, e2, h.far (p := ⟨M + 1, i, none⟩) (h.box_ne Y (by decide)) u, q⟩
  | 7, _, _, ⟨g, A, c, A', c', e, e2, h, h2, q, q2⟩ => ⟨g, A, c, A', c', e, e2, h.farB Y (by decide) i u, (h2.farB Y (by decide) i u).wideB (Nat.le_refl _) (by simp [World.setCell]), q, by simpa [World.setCell] using q2⟩
  | 9, _, _, ⟨b, A, c, e, e2, h, q⟩ => ⟨b, A, c, e, e2, h.far (p := ⟨M + 1, i, none⟩) (h.box_ne Y (by decide)) u, q⟩
  | 14, _, _, ⟨b, e, h, q⟩ => ⟨b, e, h.far (p := ⟨M + 1, i, none⟩) (h.box_ne Y (by decide)) u, q⟩
  | 16, _, _, ⟨b, e, h, q⟩ => ⟨b, e, h.far (p := ⟨M + 1, i, none⟩) (h.box_ne Y (by decide)) u, q⟩
  | 18, _, n, _ => (n rfl).elim
  | n + 19, _, _, _ => trivial

set_option maxRecDepth 100000 in
set_option maxHeartbeats 8000000 in
theorem busOf (A0 A1 A2 A3 : Option Addr) (c0 c1 c2 c3 : Nat) (d0 d1 d2 : List Int) (d3 : List Bool) (d4 : Int) (w : World) (l0 : d0.length = 256) (l1 : d1.length = 32) (l2 : d2.length = 256) (l3 : d3.length = 16) (hz : ∀ z ∈ d2, 0 ≤ z ∧ z ≤ 255) (h0 : IntL w A0 d0) (h1 : IntL w A1 d1) (h2 : IntL w A2 d2) (h3 : BoolL w A3 d3) :
    Calls Try.prog 44 #[.agg #[.slice A0 256 c0, .slice A1 32 c1, .slice A2 256 c2, .slice A3 16 c3, .int .i64 d4]] w (GivesBus d0 d1 d2 d3 d4 w) := by
  obtain ⟨W0, hW0⟩ : ∃ W0, W0 = ((w.alloc (.cells #[.slice A0 256 c0, .slice A1 32 c1, .slice A2 256 c2, .slice A3 16 c3, .int .i64 d4] 28)).alloc (.cells #[.pointer none, .pointer none, .pointer none, .pointer none] 70)) := ⟨_, rfl⟩
  have hb0 : Below w.heap.size w W0 := by rw [hW0]; exact bt (alloc_below _ _) (alloc_below _ _)
  have X0 : Box W0 w.heap.size 28 #[.slice A0 256 c0, .slice A1 32 c1, .slice A2 256 c2, .slice A3 16 c3, .int .i64 d4] := by rw [hW0]; exact (Box.new _ _ _).alloc _
  have Y0 : Box W0 (w.heap.size + 1) 70 #[.pointer none, .pointer none, .pointer none, .pointer none] := by rw [hW0]; simpa using Box.new (w.alloc (.cells #[.slice A0 256 c0, .slice A1 32 c1, .slice A2 256 c2, .slice A3 16 c3, .int .i64 d4] 28)) 70 #[.pointer none, .pointer none, .pointer none, .pointer none]
  have hs0 : W0.heap.size = w.heap.size + 2 := by rw [hW0]; simp
  have HB : Hid (∀ W, RB W0 w.heap.size W → Below w.heap.size w W) := Lib.hid (fun W r => hb0.trans (r.1.mono (by omega)))
  have HC0 := Lib.hid (fun W (r : RB W0 w.heap.size W) => cloneI A0 256 c0 d0 W l0 (by omega) (by omega) (h0.below (HB.out _ r)))
  have HC1 := Lib.hid (fun W (r : RB W0 w.heap.size W) => cloneI A1 32 c1 d1 W l1 (by omega) (by omega) (h1.below (HB.out _ r)))
  have HCh := Lib.hid (fun W (r : RB W0 w.heap.size W) => chipOf A2 A3 256 c2 16 c3 d4 d2 d3 W l2 l3 rfl rfl hz (h2.below (HB.out _ r)) (h3.below (HB.out _ r)))
  unfold GivesChip at HCh
  have hcl : (chipC d2 d3 d4).length = 273 := chipC_273 l2 l3 d4
  have hfo : List.foldl (fun (cs : Array Value) (x : Value × Nat) => cs.setIfInBounds x.snd x.fst) Try.zeroCells100 (chipC d2 d3 d4).zipIdx = (chipC d2 d3 d4).toArray := by
    have := fold_set (chipC d2 d3 d4) 0 Try.zeroCells100 (by rw [zeroK_size, hcl])
    simpa using this
  have HK : Hid (∀ W', RB W0 w.heap.size W' → W'.cell? ⟨w.heap.size, 0, none⟩ = some (.slice A0 256 c0) ∧ W'.cell? ⟨w.heap.size, 1, none⟩ = some (.slice A1 32 c1) ∧ W'.cell? ⟨w.heap.size, 2, none⟩ = some (.slice A2 256 c2) ∧ W'.cell? ⟨w.heap.size, 3, none⟩ = some (.slice A3 16 c3) ∧ W'.cell? ⟨w.heap.size, 4, none⟩ = some (.int .i64 d4) ∧ (W'.cell? ⟨w.heap.size + 1, 0, none⟩ = some (YV (w.heap.size + 1) W' 0) ∧ W'.cell? ⟨w.heap.size + 1, 1, none⟩ = some (YV (w.heap.size + 1) W' 1) ∧ W'.cell? ⟨w.heap.size + 1, 2, none⟩ = some (YV (w.heap.size + 1) W' 2) ∧ W'.cell? ⟨w.heap.size + 1, 3, none⟩ = some (YV (w.heap.size + 1) W' 3)) ∧ W'.frozen? ⟨w.heap.size + 1, 0, none⟩ = false ∧ W'.frozen? ⟨w.heap.size + 1, 1, none⟩ = false ∧ W'.frozen? ⟨w.heap.size + 1, 2, none⟩ = false ∧ W'.frozen? ⟨w.heap.size + 1, 3, none⟩ = false) := Lib.hid (fun W' r => by
    have X := X0.below r.1 (by omega)
    obtain ⟨a, q, cs, hs, b⟩ := r
    exact ⟨X.cell 0 rfl, X.cell 1 rfl, X.cell 2 rfl, X.cell 3 rfl, X.cell 4 rfl, ⟨YV.of b hs 0 (by omega), YV.of b hs 1 (by omega), YV.of b hs 2 (by omega), YV.of b hs 3 (by omega)⟩, b.frozen 0, b.frozen 1, b.frozen 2, b.frozen 3⟩)
  generalize hcs : chipC d2 d3 d4 = cs at HCh hcl hfo
  have HCs := Lib.hid hcs
  have HW0 := Lib.hid hW0
  have R0 : RB W0 w.heap.size W0.drew := ⟨(Below.refl _ _).drew, by show w.heap.size + 1 ≤ W0.heap.size; omega, _, rfl, Y0⟩
  clear l0 l1 l2 l3 hz h0 h1 h2 h3 hcs X0 Y0 hW0 hs0 hb0
  go_enter Try.func44, Try.ntmps44
  go_wp2
  rw [← HW0.out]
  refine wp_region_facts (by kernel_rfl) [[3], [4], [5], [5, 6], [5, 7], [8], [9], [5, 10], [10, 11], [10, 12], [13], [14], [15], [16], [17], [18], [19], [20, 7, 12, 17, 19], [7, 12, 17, 19]] [[], [0], [0, 1], [0, 1, 2], [0, 1, 2, 3], [], [5], [0, 1, 2, 5, 6], [0, 1, 2, 5, 6, 7], [0, 1, 2, 5, 6, 7, 8], [], [10], [0, 1, 2, 5, 6, 7, 10, 11], [0, 1, 2, 5, 6, 7, 10, 11, 12], [0, 1, 2, 5, 6, 7, 10, 11, 12, 13], [], [15], [4, 9, 14, 16, 3, 8, 13, 15, 0, 1, 2, 5, 6, 7, 10, 11, 12], [0, 1, 2, 3, 4, 5, 6, 7, 8, 9, 10, 11, 12, 13, 14, 15, 16, 17]] [0, 1, 2] (by kernel_rfl) (RB W0 w.heap.size) (busF w.heap.size (.slice A0 256 c0) (.slice A1 32 c1) (.agg #[.slice A2 256 c2, .slice A3 16 c3, .int .i64 d4]) cs d0 d1) R0 ?_ ?_
  · refine ⟨?_, ?_, ?_, ?_, ?_, ?_, ?_, ?_, ?_, ?_, ?_, ?_, ?_, ?_, ?_, ?_, ?_, ?_, ?_, trivial⟩
    · intro T W hT hs hC hF K hK
      obtain ⟨t0, t1, t2, t3, t4, t5, t6, t7, t8, t9, t10, t11, t12, t13, t14, t15, t16, t17, t18, t19, t20, rfl⟩ := arr21 T hT
      obtain rfl : t1 = .pointer (some ⟨w.heap.size, 0, none⟩) := hs 1 (by decide)
      obtain rfl : t2 = .pointer (some ⟨w.heap.size + 1, 0, none⟩) := hs 2 (by decide)
      clear hF hs hT
      go_simp
      exact hK.out _ W hC (fun _ _ _ h => h) rfl
    · intro T W hT hs hC hF K hK
      obtain ⟨t0, t1, t2, t3, t4, t5, t6, t7, t8, t9, t10, t11, t12, t13, t14, t15, t16, t17, t18, t19, t20, rfl⟩ := arr21 T hT
      obtain rfl : t1 = .pointer (some ⟨w.heap.size, 0, none⟩) := hs 1 (by decide)
      obtain rfl : t2 = .pointer (some ⟨w.heap.size + 1, 0, none⟩) := hs 2 (by decide)
      have f0 := hF 0 (by decide)
      simp only [busF, mask] at f0
      clear hF hs hT
      subst f0
      have k := (HK.out W hC).1
      go_simp
      exact hK.out _ W hC (fun _ _ _ h => h) rfl
    · intro T W hT hs hC hF K hK
      obtain ⟨t0, t1, t2, t3, t4, t5, t6, t7, t8, t9, t10, t11, t12, t13, t14, t15, t16, t17, t18, t19, t20, rfl⟩ := arr21 T hT
      obtain rfl : t1 = .pointer (some ⟨w.heap.size, 0, none⟩) := hs 1 (by decide)
      obtain rfl : t2 = .pointer (some ⟨w.heap.size + 1, 0, none⟩) := hs 2 (by decide)
      have f1 := hF 1 (by decide)
      simp only [busF, mask] at f1
      clear hF hs hT
      subst f1
      go_simp
      refine (HC0.out W hC).mono ?_
      rintro e w1 ⟨A, c, rfl, O, k⟩
      exact hK.out _ w1 (hC.step k) (fun j t _ h => busF_below k j t h) ⟨A, c, rfl, O.out.wideB (HB.out _ hC).size (Nat.le_refl _)⟩
    · intro T W hT hs hC hF K hK
      obtain ⟨t0, t1, t2, t3, t4, t5, t6, t7, t8, t9, t10, t11, t12, t13, t14, t15, t16, t17, t18, t19, t20, rfl⟩ := arr21 T hT
      obtain rfl : t1 = .pointer (some ⟨w.heap.size, 0, none⟩) := hs 1 (by decide)
      obtain rfl : t2 = .pointer (some ⟨w.heap.size + 1, 0, none⟩) := hs 2 (by decide)
      have f2 := hF 2 (by decide)
      simp only [busF, mask] at f2
      clear hF hs hT
      obtain ⟨A, c, e5, O⟩ := f2
      subst e5
      clear O
      go_simp
      exact hK.out _ W hC (fun _ _ _ h => h) ⟨A, c, rfl, rfl⟩
    · intro T W hT hs hC hF K hK
      obtain ⟨t0, t1, t2, t3, t4, t5, t6, t7, t8, t9, t10, t11, t12, t13, t14, t15, t16, t17, t18, t19, t20, rfl⟩ := arr21 T hT
      obtain rfl : t1 = .pointer (some ⟨w.heap.size, 0, none⟩) := hs 1 (by decide)
      obtain rfl : t2 = .pointer (some ⟨w.heap.size + 1, 0, none⟩) := hs 2 (by decide)
      have f3 := hF 3 (by decide)
      simp only [busF, mask] at f3
      clear hF hs hT
      obtain ⟨A, c, e5, e6⟩ := f3
      subst e5 e6
      have k := alloc_below W (.cells #[.slice A 256 c] 97)
      go_simp
      exact hK.out _ _ (hC.alloc _) (fun j t _ h => busF_below k j t h) ⟨W.heap.size, A, c, rfl, rfl, Box.new _ _ _, (HB.out _ hC).size⟩
    · intro T W hT hs hC hF K hK
      obtain ⟨t0, t1, t2, t3, t4, t5, t6, t7, t8, t9, t10, t11, t12, t13, t14, t15, t16, t17, t18, t19, t20, rfl⟩ := arr21 T hT
      obtain rfl : t1 = .pointer (some ⟨w.heap.size, 0, none⟩) := hs 1 (by decide)
      obtain rfl : t2 = .pointer (some ⟨w.heap.size + 1, 0, none⟩) := hs 2 (by decide)
      clear hF hs hT
      go_simp
      exact hK.out _ W hC (fun _ _ _ h => h) rfl
    · intro T W hT hs hC hF K hK
      obtain ⟨t0, t1, t2, t3, t4, t5, t6, t7, t8, t9, t10, t11, t12, t13, t14, t15, t16, t17, t18, t19, t20, rfl⟩ := arr21 T hT
      obtain rfl : t1 = .pointer (some ⟨w.heap.size, 0, none⟩) := hs 1 (by decide)
      obtain rfl : t2 = .pointer (some ⟨w.heap.size + 1, 0, none⟩) := hs 2 (by decide)
      have f5 := hF 5 (by decide)
      simp only [busF, mask] at f5
      clear hF hs hT
      subst f5
      have k := (HK.out W hC).2.1
      go_simp
      exact hK.out _ W hC (fun _ _ _ h => h) rfl
    · intro T W hT hs hC hF K hK
      obtain ⟨t0, t1, t2, t3, t4, t5, t6, t7, t8, t9, t10, t11, t12, t13, t14, t15, t16, t17, t18, t19, t20, rfl⟩ := arr21 T hT
      obtain rfl : t1 = .pointer (some ⟨w.heap.size, 0, none⟩) := hs 1 (by decide)
      obtain rfl : t2 = .pointer (some ⟨w.heap.size + 1, 0, none⟩) := hs 2 (by decide)
      have f6 := hF 6 (by decide)
      simp only [busF, mask] at f6
      have f2 := hF 2 (by decide)
      simp only [busF, mask] at f2
      clear hF hs hT
      subst f6
      obtain ⟨A, c, e5, O5⟩ := f2
      subst e5
      have H5 := Lib.hid O5
      clear O5
      go_simp
      refine (HC1.out W hC).mono ?_
      rintro e w1 ⟨A', c', rfl, O, k⟩
      exact hK.out _ w1 (hC.step k) (fun j t _ h => busF_below k j t h) ⟨W.heap.size, A, c, A', c', rfl, rfl, H5.out.below k, O.out, (HB.out _ hC).size, k.size⟩
    · intro T W hT hs hC hF K hK
      obtain ⟨t0, t1, t2, t3, t4, t5, t6, t7, t8, t9, t10, t11, t12, t13, t14, t15, t16, t17, t18, t19, t20, rfl⟩ := arr21 T hT
      obtain rfl : t1 = .pointer (some ⟨w.heap.size, 0, none⟩) := hs 1 (by decide)
      obtain rfl : t2 = .pointer (some ⟨w.heap.size + 1, 0, none⟩) := hs 2 (by decide)
      have f7 := hF 7 (by decide)
      simp only [busF, mask] at f7
      clear hF hs hT
      obtain ⟨g, A, c, A', c', e5, e10, O5, O10, q, q2⟩ := f7
      subst e5 e10
      clear O5 O10
      go_simp
      exact hK.out _ W hC (fun _ _ _ h => h) ⟨A', c', rfl, rfl⟩
    · intro T W hT hs hC hF K hK
      obtain ⟨t0, t1, t2, t3, t4, t5, t6, t7, t8, t9, t10, t11, t12, t13, t14, t15, t16, t17, t18, t19, t20, rfl⟩ := arr21 T hT
      obtain rfl : t1 = .pointer (some ⟨w.heap.size, 0, none⟩) := hs 1 (by decide)
      obtain rfl : t2 = .pointer (some ⟨w.heap.size + 1, 0, none⟩) := hs 2 (by decide)
      have f8 := hF 8 (by decide)
      simp only [busF, mask] at f8
      clear hF hs hT
      obtain ⟨A, c, e5, e6⟩ := f8
      subst e5 e6
      have k := alloc_below W (.cells #[.slice A 32 c] 98)
      go_simp
      exact hK.out _ _ (hC.alloc _) (fun j t _ h => busF_below k j t h) ⟨W.heap.size, A, c, rfl, rfl, Box.new _ _ _, (HB.out _ hC).size⟩
    · intro T W hT hs hC hF K hK
      obtain ⟨t0, t1, t2, t3, t4, t5, t6, t7, t8, t9, t10, t11, t12, t13, t14, t15, t16, t17, t18, t19, t20, rfl⟩ := arr21 T hT
      obtain rfl : t1 = .pointer (some ⟨w.heap.size, 0, none⟩) := hs 1 (by decide)
      obtain rfl : t2 = .pointer (some ⟨w.heap.size + 1, 0, none⟩) := hs 2 (by decide)
      clear hF hs hT
      go_simp
      exact hK.out _ W hC (fun _ _ _ h => h) rfl
    · intro T W hT hs hC hF K hK
      obtain ⟨t0, t1, t2, t3, t4, t5, t6, t7, t8, t9, t10, t11, t12, t13, t14, t15, t16, t17, t18, t19, t20, rfl⟩ := arr21 T hT
      obtain rfl : t1 = .pointer (some ⟨w.heap.size, 0, none⟩) := hs 1 (by decide)
      obtain rfl : t2 = .pointer (some ⟨w.heap.size + 1, 0, none⟩) := hs 2 (by decide)
      have f10 := hF 10 (by decide)
      simp only [busF, mask] at f10
      clear hF hs hT
      subst f10
      have k2 := (HK.out W hC).2.2.1
      have k3 := (HK.out W hC).2.2.2.1
      have k4 := (HK.out W hC).2.2.2.2.1
      go_simp
      exact hK.out _ W hC (fun _ _ _ h => h) rfl
    · intro T W hT hs hC hF K hK
      obtain ⟨t0, t1, t2, t3, t4, t5, t6, t7, t8, t9, t10, t11, t12, t13, t14, t15, t16, t17, t18, t19, t20, rfl⟩ := arr21 T hT
      obtain rfl : t1 = .pointer (some ⟨w.heap.size, 0, none⟩) := hs 1 (by decide)
      obtain rfl : t2 = .pointer (some ⟨w.heap.size + 1, 0, none⟩) := hs 2 (by decide)
      have f11 := hF 11 (by decide)
      simp only [busF, mask] at f11
      clear hF hs hT
      subst f11
      go_simp
      refine (HCh.out W hC).mono ?_
      rintro e w1 ⟨rfl, k⟩
      exact hK.out _ w1 (hC.step k) (fun j t _ h => busF_below k j t h) rfl
    · intro T W hT hs hC hF K hK
      obtain ⟨t0, t1, t2, t3, t4, t5, t6, t7, t8, t9, t10, t11, t12, t13, t14, t15, t16, t17, t18, t19, t20, rfl⟩ := arr21 T hT
      obtain rfl : t1 = .pointer (some ⟨w.heap.size, 0, none⟩) := hs 1 (by decide)
      obtain rfl : t2 = .pointer (some ⟨w.heap.size + 1, 0, none⟩) := hs 2 (by decide)
      have f12 := hF 12 (by decide)
      simp only [busF, mask] at f12
      clear hF hs hT
      subst f12
      go_simp
      exact hK.out _ W hC (fun _ _ _ h => h) rfl
    · intro T W hT hs hC hF K hK
      obtain ⟨t0, t1, t2, t3, t4, t5, t6, t7, t8, t9, t10, t11, t12, t13, t14, t15, t16, t17, t18, t19, t20, rfl⟩ := arr21 T hT
      obtain rfl : t1 = .pointer (some ⟨w.heap.size, 0, none⟩) := hs 1 (by decide)
      obtain rfl : t2 = .pointer (some ⟨w.heap.size + 1, 0, none⟩) := hs 2 (by decide)
      have f13 := hF 13 (by decide)
      simp only [busF, mask] at f13
      clear hF hs hT
      subst f13
      have k := alloc_below W (.cells cs.toArray 100)
      go_simp
      exact hK.out _ _ (hC.alloc _) (fun j t _ h => busF_below k j t h) ⟨W.heap.size, rfl, Box.new _ _ _, (HB.out _ hC).size⟩
    · intro T W hT hs hC hF K hK
      obtain ⟨t0, t1, t2, t3, t4, t5, t6, t7, t8, t9, t10, t11, t12, t13, t14, t15, t16, t17, t18, t19, t20, rfl⟩ := arr21 T hT
      obtain rfl : t1 = .pointer (some ⟨w.heap.size, 0, none⟩) := hs 1 (by decide)
      obtain rfl : t2 = .pointer (some ⟨w.heap.size + 1, 0, none⟩) := hs 2 (by decide)
      clear hF hs hT
      go_simp
      exact hK.out _ W hC (fun _ _ _ h => h) rfl
    · intro T W hT hs hC hF K hK
      obtain ⟨t0, t1, t2, t3, t4, t5, t6, t7, t8, t9, t10, t11, t12, t13, t14, t15, t16, t17, t18, t19, t20, rfl⟩ := arr21 T hT
      obtain rfl : t1 = .pointer (some ⟨w.heap.size, 0, none⟩) := hs 1 (by decide)
      obtain rfl : t2 = .pointer (some ⟨w.heap.size + 1, 0, none⟩) := hs 2 (by decide)
      have f15 := hF 15 (by decide)
      simp only [busF, mask] at f15
      clear hF hs hT
      subst f15
      have k := alloc_below W (.cells #[] 102)
      go_simp
      exact hK.out _ _ (hC.alloc _) (fun j t _ h => busF_below k j t h) ⟨W.heap.size, rfl, Box.new _ _ _, (HB.out _ hC).size⟩
    · intro T W hT hs hC hF K hK
      obtain ⟨t0, t1, t2, t3, t4, t5, t6, t7, t8, t9, t10, t11, t12, t13, t14, t15, t16, t17, t18, t19, t20, rfl⟩ := arr21 T hT
      obtain rfl : t1 = .pointer (some ⟨w.heap.size, 0, none⟩) := hs 1 (by decide)
      obtain rfl : t2 = .pointer (some ⟨w.heap.size + 1, 0, none⟩) := hs 2 (by decide)
      have f4 := hF 4 (by decide)
      simp only [busF, mask] at f4
      have f9 := hF 9 (by decide)
      simp only [busF, mask] at f9
      have f14 := hF 14 (by decide)
      simp only [busF, mask] at f14
      have f16 := hF 16 (by decide)
      simp only [busF, mask] at f16
      clear hF hs hT
      obtain ⟨b0, A, c, e5, e7, B0, q0⟩ := f4
      obtain ⟨b1, A', c', e10, e12, B1, q1⟩ := f9
      obtain ⟨b2, e17, B2, q2⟩ := f14
      obtain ⟨b3, e19, B3, q3⟩ := f16
      subst e5 e7 e10 e12 e17 e19
      clear B0 B1 B2 B3 q0 q1 q2 q3
      go_simp
      exact hK.out _ W hC (fun _ _ _ h => h) rfl
    · intro T W hT hs hC hF K hK
      obtain ⟨t0, t1, t2, t3, t4, t5, t6, t7, t8, t9, t10, t11, t12, t13, t14, t15, t16, t17, t18, t19, t20, rfl⟩ := arr21 T hT
      obtain rfl : t1 = .pointer (some ⟨w.heap.size, 0, none⟩) := hs 1 (by decide)
      obtain rfl : t2 = .pointer (some ⟨w.heap.size + 1, 0, none⟩) := hs 2 (by decide)
      have f17 : t20 = .agg #[t7, t12, t17, t19] := hF 17 (by decide)
      have f4 := hF 4 (by decide)
      simp only [busF, mask] at f4
      have f9 := hF 9 (by decide)
      simp only [busF, mask] at f9
      have f14 := hF 14 (by decide)
      simp only [busF, mask] at f14
      have f16 := hF 16 (by decide)
      simp only [busF, mask] at f16
      clear hF hs hT
      obtain ⟨b0, A, c, e5, e7, B0, q0⟩ := f4
      obtain ⟨b1, A', c', e10, e12, B1, q1⟩ := f9
      obtain ⟨b2, e17, B2, q2⟩ := f14
      obtain ⟨b3, e19, B3, q3⟩ := f16
      subst e5 e7 e10 e12 e17 e19 f17
      clear B0 B1 B2 B3 q0 q1 q2 q3
      obtain ⟨hCa, hCb, ys, hys, Y⟩ := hC
      have y0 := YV.of Y hys 0 (by omega)
      have y1 := YV.of Y hys 1 (by omega)
      have y2 := YV.of Y hys 2 (by omega)
      have y3 := YV.of Y hys 3 (by omega)
      have z0 := Y.frozen 0
      have z1 := Y.frozen 1
      have z2 := Y.frozen 2
      have z3 := Y.frozen 3
      have HYs := Lib.hid (And.intro hys Y)
      have hC : RB W0 w.heap.size W := ⟨hCa, hCb, ys, hys, Y⟩
      clear hys Y hCa hCb
      go_simp
      exact hK.out undef _ ((((hC.set 0 _).set 1 _).set 2 _).set 3 _) (fun j t n h => busF_store (((HYs.out.2.set 0 _).set 1 _).set 2 _) 3 _ j t n (busF_store ((HYs.out.2.set 0 _).set 1 _) 2 _ j t n (busF_store (HYs.out.2.set 0 _) 1 _ j t n (busF_store HYs.out.2 0 _ j t n h)))) (HYs.out.2.all4 HYs.out.1 _ _ _ _)
  · intro T W hT hs hC hF
    obtain ⟨t0, t1, t2, t3, t4, t5, t6, t7, t8, t9, t10, t11, t12, t13, t14, t15, t16, t17, t18, t19, t20, rfl⟩ := arr21 T hT
    obtain rfl : t2 = .pointer (some ⟨w.heap.size + 1, 0, none⟩) := hs 2 (by decide)
    obtain ⟨b0, A, c, e5, e7, B0, q0⟩ := hF 4 (by decide)
    obtain ⟨g, A', c', A1', c1', e5', e10', O5, O10, qg, qg2⟩ := hF 7 (by decide)
    obtain ⟨b1, A1, c1, e10, e12, B1, q1⟩ := hF 9 (by decide)
    obtain ⟨b2, e17, B2, q2⟩ := hF 14 (by decide)
    obtain ⟨b3, e19, B3, q3⟩ := hF 16 (by decide)
    have Y : Box W (w.heap.size + 1) 70 #[t7, t12, t17, t19] := hF 18 (by decide)
    subst e5 e7 e10 e12 e17 e19
    injection (show Value.slice A 256 c = .slice A' 256 c' from e5') with x1 _ x2
    injection (show Value.slice A1 32 c1 = .slice A1' 32 c1' from e10') with x3 _ x4
    subst x1 x2 x3 x4
    have y0 := Y.cell 0 rfl
    have y1 := Y.cell 1 rfl
    have y2 := Y.cell 2 rfl
    have y3 := Y.cell 3 rfl
    have HR : Hid (BusAt W w.heap.size g b0 b1 b2 b3 A A1 c c1 d0 d1 d2 d3 d4) := Lib.hid ⟨B0, B1, by rw [HCs.out]; exact B2, B3, O5, O10, q0, q1, q2, q3, qg, qg2⟩
    have HBw := Lib.hid (HB.out _ hC)
    clear e5' e10' O5 O10 B0 B1 B2 B3 Y hF hs hT hC R0
    go_wp2
    refine bodyPost_ret (v := .agg #[.pointer (some ⟨b0, 0, none⟩), .pointer (some ⟨b1, 0, none⟩), .pointer (some ⟨b2, 0, none⟩), .pointer (some ⟨b3, 0, none⟩)]) (by simp [results, Try.results44, go_sem, y0, y1, y2, y3]) rfl ?_
    exact ⟨_, _, _, _, _, _, _, _, _, rfl, HR, HBw.out⟩
end Go.Proofs.Ytdanefhfngmipaa

/- Contracts of Flash.identify, l01Bit, l03Read and both BusRead. -/
namespace Go.Proofs.Ytdanefhfngmipaa
open Go.RowKit

def readV (zs : List Int) (gs : List Bool) (st : Int) (n : Nat) : Int :=
  if st = 7 then (if n % 4 = 0 then 32 else if n % 4 = 1 then 47 else if n % 4 = 2 then (if gs.getD (n / 16) false then 1 else 0) else 255) else zs.getD n 0
def readOf (zs : List Int) (gs : List Bool) (st a : Int) : Int × Int :=
  if okFlash zs gs st then (if byB a then (readV zs gs st a.toNat, 0) else (0, 4)) else (0, 1)

theorem quiet_same' {P : Program} {f : FuncId} {args : Array Value} {w : World} {n : Nat} {v : Value}
    (h : Calls P f args (w.drewN n) fun e w' => e = .returned v ∧ w.drewN n = w') : Calls P f args (w.drewN n) fun e w' => e = .returned v ∧ ∃ m, w' = w.drewN m :=
  h.mono fun _ _ ⟨he, hw⟩ => ⟨he, n, hw.symm⟩

set_option maxRecDepth 100000 in
theorem l01Bit (q : Bool) (w : World) : Calls Try.prog 91 #[.bool q] w fun e w' => e = .returned (.int .i64 (if q then 1 else 0)) ∧ w = w' := by
  cases q <;> (go_enter Try.func91, Try.ntmps91; go_wp2; go_ret; exact ⟨rfl, rfl⟩)

set_option maxRecDepth 100000 in
theorem l03Read (A C : Option Addr) (n c d k : Nat) (st : Int) (zs : List Int) (gs : List Bool) (w : World) (hl : zs.length = n) (hn : n = 256) (hm : gs.length = 16) (hk : k ≤ 255) (h : IntL w A zs) (g : BoolL w C gs) :
    Calls Try.prog 61 #[.agg #[.slice A n c, .slice C 16 d, .int .i64 st], .int .i64 k] w fun e w' => e = .returned (.int .i64 (readV zs gs st k)) ∧ Below w.heap.size w w' := by
  have hb0 := alloc_below w (.cells #[.slice A n c, .slice C 16 d, .int .i64 st] 26)
  have hdiv : k / 16 < 16 := by omega
  have hki : (k : Int) < (n : Int) := by omega
  by_cases h7 : st = 7
  · subst h7
    obtain ⟨b, off, rfl, hc⟩ := (g.below hb0) (k / 16) (by omega)
    have HR : Hid (∀ q, q = gs.getD (k / 16) false → readV zs gs 7 k = if k % 4 = 0 then 32 else if k % 4 = 1 then 47 else if k % 4 = 2 then (if q then 1 else 0) else 255) := Lib.hid (by intro q hq; subst hq; unfold readV; rw [if_pos rfl])
    generalize readV zs gs 7 k = r at HR
    have HR2 := Lib.hid (HR.out _ rfl)
    generalize gs.getD (k / 16) false = q at hc HR2
    have h4 : k % 4 = 0 ∨ k % 4 = 1 ∨ k % 4 = 2 ∨ k % 4 = 3 := by omega
    have ha := and_3 k (by omega)
    have hdi : ((k / 16 : Nat) : Int) < 16 := by omega
    clear hm g HR hl hn h
    rcases h4 with h4 | h4 | h4 | h4
    · have e : r = 32 := by rw [HR2.out, if_pos h4]
      rw [h4] at ha
      clear HR2 h4
      subst e
      go_enter Try.func61, Try.ntmps61
      go_wp2
      go_ret
      exact ⟨rfl, hb0⟩
    · have e : r = 47 := by rw [HR2.out, if_neg (by omega), if_pos h4]
      rw [h4] at ha
      clear HR2 h4
      subst e
      go_enter Try.func61, Try.ntmps61
      go_wp2
      go_ret
      exact ⟨rfl, hb0⟩
    · have e : r = if q then 1 else 0 := by rw [HR2.out, if_neg (by omega), if_neg (by omega), if_pos h4]
      rw [h4] at ha
      have HE := Lib.hid e
      clear HR2 h4 e
      cases q <;> (
        go_enter Try.func61, Try.ntmps61
        go_wp2_with (first | (go_at_call 91; refine (l01Bit _ _).mono ?_; rintro e w' ⟨rfl, rfl⟩))
        go_ret
        exact ⟨ret_int HE.out.symm, hb0⟩)
    · have e : r = 255 := by rw [HR2.out, if_neg (by omega), if_neg (by omega), if_neg (by omega)]
      rw [h4] at ha
      clear HR2 h4
      subst e
      go_enter Try.func61, Try.ntmps61
      go_wp2
      go_ret
      exact ⟨rfl, hb0⟩
  · have hq7 : (st != 7) = true := by simp [h7]
    obtain ⟨b, off, rfl, hc⟩ := (h.below hb0) k (by omega)
    have HE : Hid (readV zs gs st k = zs.getD k 0) := Lib.hid (by unfold readV; rw [if_neg h7])
    generalize readV zs gs st k = r at HE
    generalize zs.getD k 0 = z at hc HE
    clear hm g hl hn h h7
    go_enter Try.func61, Try.ntmps61
    go_wp2
    go_ret
    exact ⟨ret_int HE.out.symm, hb0⟩

theorem readOf_bad (zs : List Int) (gs : List Bool) (st a : Int) (h : okFlash zs gs st = false) : readOf zs gs st a = (0, 1) := by unfold readOf; simp [h]
theorem readOf_range (zs : List Int) (gs : List Bool) (st a : Int) (h : okFlash zs gs st = true) (h2 : byB a = false) : readOf zs gs st a = (0, 4) := by unfold readOf; simp [h, h2]
theorem readOf_ok (zs : List Int) (gs : List Bool) (st : Int) (k : Nat) (h : okFlash zs gs st = true) (h2 : byB k = true) : readOf zs gs st k = (readV zs gs st k, 0) := by unfold readOf; simp [h, h2]
theorem readV_7 (zs : List Int) (gs : List Bool) (k : Nat) : readV zs gs 7 k = readV [] gs 7 k := by unfold readV; rw [if_pos rfl, if_pos rfl]

set_option maxRecDepth 100000 in
set_option maxHeartbeats 1000000 in
theorem specBusRead (A C : Option Addr) (n c m d : Nat) (st : Int) (zs : List Int) (gs : List Bool) (a : Int) (w : World) (hl : zs.length = n) (hm : gs.length = m) (hn : n ≤ maxLen) (hmm : m ≤ maxLen) (h : IntL w A zs) (g : BoolL w C gs) :
    Calls Try.prog 23 #[.agg #[.slice A n c, .slice C m d, .int .i64 st], .int .i64 a] w fun e w' => e = .returned (.tuple #[.int .i64 (readOf zs gs st a).1, .int .i64 (readOf zs gs st a).2]) ∧ Below w.heap.size w w' := by
  have hb0 := alloc_below w (.cells #[.slice A n c, .slice C m d, .int .i64 st] 26)
  have X0 := Lib.hid (Box.new w 26 #[.slice A n c, .slice C m d, .int .i64 st])
  have HC := Lib.hid (fun W (hb : Below w.heap.size w W) => l03Ask A C n c m d st (byB a) zs gs W hl hm hn hmm (h.below hb))
  have H := Lib.hid (And.intro hl (And.intro hm (And.intro h g)))
  clear hl hm hn hmm h g
  obtain ⟨W0, hW0⟩ : ∃ W0, W0 = w.alloc (.cells #[.slice A n c, .slice C m d, .int .i64 st] 26) := ⟨_, rfl⟩
  have HRd : Hid (readOf zs gs st a = if codeIf (okFlash zs gs st) (byB a) = 0 then (readV zs gs st a.toNat, 0) else (0, codeIf (okFlash zs gs st) (byB a))) := Lib.hid (by unfold readOf codeIf; cases okFlash zs gs st <;> cases byB a <;> rfl)
  have HOk : Hid (codeIf (okFlash zs gs st) (byB a) = 0 → okFlash zs gs st = true ∧ byB a = true) := Lib.hid (by unfold codeIf; cases okFlash zs gs st <;> cases byB a <;> simp)
  generalize readOf zs gs st a = r at HRd
  generalize hcd : codeIf (okFlash zs gs st) (byB a) = cd at HC HRd HOk
  clear hcd
  have f0 := X0.out.cell 0 rfl
  have f1 := X0.out.cell 1 rfl
  have f2 := X0.out.cell 2 rfl
  rw [← hW0] at hb0 X0 f0 f1 f2
  have HK := Lib.hid (fun W' (hb : Below W0.heap.size W0 W') => And.intro ((hb.cell (cell_lt f0)).trans f0) (And.intro ((hb.cell (cell_lt f1)).trans f1) ((hb.cell (cell_lt f2)).trans f2)))
  have HW := Lib.hid hW0
  clear hW0
  have h6 : Below W0.heap.size W0 W0.drew := (Below.refl _ _).drew
  go_enter Try.func23, Try.ntmps23
  go_wp2
  rw [← HW.out]
  go_region_held3 (fun W => W.cell? ⟨w.heap.size, 0, none⟩ = some (.slice A n c) ∧ W.cell? ⟨w.heap.size, 1, none⟩ = some (.slice C m d) ∧ W.cell? ⟨w.heap.size, 2, none⟩ = some (.int .i64 st))
    (first | exact HK.out _ h6 | exact HK.out _ (bt h6 hb2))
    (first | (go_at_call 60; refine (l03At _ _).mono ?_; rintro e w' ⟨rfl, rfl⟩) | (go_at_call 59; refine (HC.out _ hb0.drew).mono ?_; rintro e w2 ⟨rfl, hb2⟩))
  have hb := bt (bt hb0 h6) hb2
  have f0' := (HK.out _ (bt h6 hb2)).1
  have f1' := (HK.out _ (bt h6 hb2)).2.1
  have f2' := (HK.out _ (bt h6 hb2)).2.2
  clear f0 f1 f2 hb0 h6 HK X0 HW HC hb2
  by_cases hz : cd = 0
  · subst hz
    obtain ⟨hok, ha⟩ := HOk.out rfl
    have q := okFlash_len hok
    obtain rfl : n = 256 := by have := H.out.1; omega
    obtain rfl : m = 16 := by have := H.out.2.1; omega
    obtain ⟨k, rfl⟩ : ∃ k : Nat, a = k := ⟨a.toNat, by have := byB_range ha; omega⟩
    have HI := Lib.hid (l03Read A C 256 c d k st zs gs w2 H.out.1 rfl H.out.2.1 (by have := byB_range ha; omega) (H.out.2.2.1.below hb) (H.out.2.2.2.below hb))
    have HRz : Hid (r = (readV zs gs st k, 0)) := Lib.hid (by rw [HRd.out, if_pos rfl]; rfl)
    generalize readV zs gs st k = z at HRz HI
    clear q hok ha H HRd HOk
    go_wp2_with fail
    refine HI.out.mono ?_
    rintro e w3 ⟨rfl, hb3⟩
    go_wp2
    refine bodyPost_ret (v := .tuple #[.int .i64 z, .int .i64 0]) (by simp [results, Try.results23, go_sem]) rfl ?_
    exact ⟨by rw [HRz.out], bt hb hb3⟩
  · have hcb : (cd != 0) = true := by simp [hz]
    have HRz : Hid (r = (0, cd)) := Lib.hid (by rw [HRd.out, if_neg hz])
    clear hz HRd HOk H
    go_wp2
    refine bodyPost_ret (v := .tuple #[.int .i64 0, .int .i64 cd]) (by simp [results, Try.results23, go_sem]) rfl ?_
    exact ⟨by rw [HRz.out], hb⟩
end Go.Proofs.Ytdanefhfngmipaa

/- The chip's identify and read; BusRead by way of the chip. -/
namespace Go.Proofs.Ytdanefhfngmipaa
open Go.RowKit

set_option maxRecDepth 100000 in
set_option maxHeartbeats 2000000 in
theorem chipIdentify (k : Nat) (zs : List Int) (gs : List Bool) (st : Int) (w : World) (hz : zs.length = 256) (hg : gs.length = 16) (hk : k ≤ 255) :
    Calls Try.prog 93 #[.agg (chipC zs gs st).toArray, .int .i64 k] w fun e w' => e = .returned (.int .i64 (readV zs gs 7 k)) ∧ Below w.heap.size w w' := by
  have hb0 := alloc_below w (.cells (chipC zs gs st).toArray 86)
  have hc := (BC.new w zs gs st).guard hz (k / 16) (by omega)
  have HR : Hid (∀ q, q = gs.getD (k / 16) false → readV zs gs 7 k = if k % 4 = 0 then 32 else if k % 4 = 1 then 47 else if k % 4 = 2 then (if q then 1 else 0) else 255) := Lib.hid (by intro q hq; subst hq; unfold readV; rw [if_pos rfl])
  generalize readV zs gs 7 k = r at HR
  have HR2 := Lib.hid (HR.out _ rfl)
  generalize gs.getD (k / 16) false = q at hc HR2
  generalize chipC zs gs st = cs at hb0 hc
  have HB := Lib.hid (fun W => blockOf k hk W)
  have h4 : k % 4 = 0 ∨ k % 4 = 1 ∨ k % 4 = 2 ∨ k % 4 = 3 := by omega
  have hdi : ((k / 16 : Nat) : Int) < 16 := by omega
  clear hz hg HR
  rcases h4 with h4 | h4 | h4 | h4
  · have q0 : ((k : Int) % 4 == 0) = true := by simp; omega
    have e : r = 32 := by rw [HR2.out, if_pos h4]
    clear h4 HR2
    subst e
    go_enter Try.func93, Try.ntmps93
    go_wp2
    go_ret
    exact ⟨rfl, hb0⟩
  · have q0 : ((k : Int) % 4 == 0) = false := by simp; omega
    have q1 : ((k : Int) % 4 == 1) = true := by simp; omega
    have e : r = 47 := by rw [HR2.out, if_neg (by omega), if_pos h4]
    clear h4 HR2
    subst e
    go_enter Try.func93, Try.ntmps93
    go_wp2
    go_ret
    exact ⟨rfl, hb0⟩
  · have q0 : ((k : Int) % 4 == 0) = false := by simp; omega
    have q1 : ((k : Int) % 4 == 1) = false := by simp; omega
    have q2 : ((k : Int) % 4 == 2) = true := by simp; omega
    have e : r = if q then 1 else 0 := by rw [HR2.out, if_neg (by omega), if_neg (by omega), if_pos h4]
    have HE := Lib.hid e
    clear h4 HR2 e
    cases q <;> (
      go_enter Try.func93, Try.ntmps93
      go_wp2_with (first | (go_at_call 107; refine (HB.out _).mono ?_; rintro e w' ⟨rfl, rfl⟩))
      go_ret
      exact ⟨ret_int HE.out.symm, hb0⟩)
  · have q0 : ((k : Int) % 4 == 0) = false := by simp; omega
    have q1 : ((k : Int) % 4 == 1) = false := by simp; omega
    have q2 : ((k : Int) % 4 == 2) = false := by simp; omega
    have e : r = 255 := by rw [HR2.out, if_neg (by omega), if_neg (by omega), if_neg (by omega)]
    clear h4 HR2
    subst e
    go_enter Try.func93, Try.ntmps93
    go_wp2
    go_ret
    exact ⟨rfl, hb0⟩

set_option maxRecDepth 100000 in
set_option maxHeartbeats 2000000 in
theorem chipRead (k : Nat) (zs : List Int) (gs : List Bool) (st : Int) (w : World) (hz : zs.length = 256) (hg : gs.length = 16) (hk : k ≤ 255) (hzs : ∀ z ∈ zs, 0 ≤ z ∧ z ≤ 255) :
    Calls Try.prog 65 #[.agg (chipC zs gs st).toArray, .int .i64 k] w fun e w' => e = .returned (.int .i64 (readV zs gs st k)) ∧ Below w.heap.size w w' := by
  have hb0 := alloc_below w (.cells (chipC zs gs st).toArray 86)
  have X := BC.new w zs gs st
  have x0 := X.state hz hg
  by_cases h7 : st = 7
  · subst h7
    have HI := Lib.hid (chipIdentify k zs gs 7 (w.alloc (.cells (chipC zs gs 7).toArray 86)) hz hg hk)
    have HLd := Lib.hid (X.loads hz hg)
    generalize readV zs gs 7 k = r at HI
    generalize chipC zs gs 7 = cs at hb0 x0 HI HLd
    clear X hz hg hzs
    go_enter Try.func65, Try.ntmps65
    go_wp2_with (first
      | (with_reducible refine wpList_load_mid rfl 86 (.tmp 2) rfl w.heap.size 0 rfl cs _ HLd.out.range Try.underlying86 rfl HLd.out.size ?_))
    refine HI.out.mono ?_
    rintro e w2 ⟨rfl, hb2⟩
    go_wp2
    go_ret
    exact ⟨rfl, bt hb0 hb2⟩
  · have q7 : (st == 7) = false := by simp [h7]
    have hc := X.cell k (by omega)
    have HE : Hid (readV zs gs st k = zs.getD k 0) := Lib.hid (by unfold readV; rw [if_neg h7])
    generalize readV zs gs st k = r at HE
    have hrg := hzs (zs.getD k 0) (by rw [List.getD_eq_getElem?_getD, List.getElem?_eq_getElem (by omega)]; exact List.getElem_mem _)
    generalize zs.getD k 0 = x at hc HE hrg
    have hw6 : RowKit.wrap64 x = x := by unfold RowKit.wrap64; omega
    generalize chipC zs gs st = cs at hb0 x0 hc
    have hki : (k : Int) < 256 := by omega
    clear X hz hg hzs h7
    go_enter Try.func65, Try.ntmps65
    go_wp2
    go_ret
    exact ⟨ret_int HE.out.symm, hb0⟩

set_option maxRecDepth 100000 in
set_option maxHeartbeats 2000000 in
theorem implBusReadC (A C : Option Addr) (n c m d : Nat) (st : Int) (zs : List Int) (gs : List Bool) (a : Int) (w : World) (hl : zs.length = n) (hm : gs.length = m) (hn : n ≤ maxLen) (hmm : m ≤ maxLen) (h : IntL w A zs) (g : BoolL w C gs) :
    Calls Try.prog 25 #[.agg #[.slice A n c, .slice C m d, .int .i64 st], .int .i64 a] w fun e w' => e = .returned (.tuple #[.int .i64 (readOf zs gs st a).1, .int .i64 (readOf zs gs st a).2]) ∧ Below w.heap.size w w' := by
  have hb0 := alloc_below w (.cells #[.slice A n c, .slice C m d, .int .i64 st] 26)
  have X0 := Lib.hid (Box.new w 26 #[.slice A n c, .slice C m d, .int .i64 st])
  have HC := Lib.hid (checkCell A C n c m d st a 0 zs gs _ hl hm hn hmm (h.below hb0))
  rw [show (byB a && byB 0) = byB a from by rw [show byB 0 = true from rfl, Bool.and_true]] at HC
  have H := Lib.hid (And.intro hl (And.intro hm (And.intro h g)))
  clear hl hm hn hmm h g
  by_cases hok : okFlash zs gs st = true
  · rw [hok] at HC
    have q := okFlash_len hok
    obtain rfl : n = 256 := by have := H.out.1; omega
    obtain rfl : m = 16 := by have := H.out.2.1; omega
    by_cases ha : byB a = true
    · rw [ha] at HC
      obtain ⟨k, rfl⟩ : ∃ k : Nat, a = k := ⟨a.toNat, by have := byB_range ha; omega⟩
      have hk : k ≤ 255 := by have := byB_range ha; omega
      have HRd := Lib.hid (readOf_ok zs gs st k hok ha)
      have HCo := Lib.hid (fun W (hb : Below w.heap.size w W) => chipOf A C 256 c 16 d st zs gs W H.out.1 H.out.2.1 rfl rfl q.2.2.2 (H.out.2.2.1.below hb) (H.out.2.2.2.below hb))
      have HI := Lib.hid (fun W => chipRead k zs gs st W H.out.1 H.out.2.1 hk q.2.2.2)
      generalize readOf zs gs st k = r at HRd
      generalize readV zs gs st k = z at HRd HI
      unfold GivesChip at HCo
      generalize chipC zs gs st = cs at HCo HI
      clear q hok ha
      go_enter Try.func25, Try.ntmps25
      go_wp2_with fail
      refine HC.out.mono ?_
      rintro e w1 ⟨rfl, hb1⟩
      rw [show codeIf true true = 0 from rfl]
      have hb := bt hb0 hb1
      have f0 := (X0.out.step hb1).cell 0 rfl
      have f1 := (X0.out.step hb1).cell 1 rfl
      have f2 := (X0.out.step hb1).cell 2 rfl
      go_wp2_with fail
      refine (HCo.out _ hb).mono ?_
      rintro e w2 ⟨rfl, hb2⟩
      go_wp2_with fail
      refine (HI.out _).mono ?_
      rintro e w3 ⟨rfl, hb3⟩
      go_wp2
      refine bodyPost_ret (v := .tuple #[.int .i64 z, .int .i64 0]) (by simp [results, Try.results25, go_sem]) rfl ?_
      exact ⟨by rw [HRd.out], bt (bt hb hb2) hb3⟩
    · have ha' : byB a = false := by simpa using ha
      rw [ha'] at HC
      have HRd := Lib.hid (readOf_range zs gs st a hok ha')
      clear q hok ha ha' H
      go_enter Try.func25, Try.ntmps25
      go_wp2_with fail
      refine HC.out.mono ?_
      rintro e w1 ⟨rfl, hb1⟩
      rw [show codeIf true false = 4 from rfl]
      go_wp2
      refine bodyPost_ret (v := .tuple #[.int .i64 0, .int .i64 4]) (by simp [results, Try.results25, go_sem]) rfl ?_
      exact ⟨by rw [HRd.out], bt hb0 hb1⟩
  · have hok' : okFlash zs gs st = false := by simpa using hok
    rw [hok'] at HC
    have HRd := Lib.hid (readOf_bad zs gs st a hok')
    clear hok hok' H
    go_enter Try.func25, Try.ntmps25
    go_wp2_with fail
    refine HC.out.mono ?_
    rintro e w1 ⟨rfl, hb1⟩
    rw [show ∀ b, codeIf false b = 1 from fun _ => rfl]
    go_wp2
    refine bodyPost_ret (v := .tuple #[.int .i64 0, .int .i64 1]) (by simp [results, Try.results25, go_sem]) rfl ?_
    exact ⟨by rw [HRd.out], bt hb0 hb1⟩
end Go.Proofs.Ytdanefhfngmipaa

/- The devices' methods. -/
namespace Go.Proofs.Ytdanefhfngmipaa
open Go.RowKit

section
variable (p0 p1 p2 p3 : Addr) (w : World)
set_option maxRecDepth 100000 in
theorem busDevice1 : Calls Try.prog 84 #[.agg #[.pointer (some p0), .pointer (some p1), .pointer (some p2), .pointer (some p3)], .int .i64 1] w fun e w' => e = .returned (.iface 65 (.pointer (some p0))) ∧ Below w.heap.size w w' := by
  have hb0 := alloc_below w (.cells #[.pointer (some p0), .pointer (some p1), .pointer (some p2), .pointer (some p3)] 70)
  go_enter Try.func84, Try.ntmps84
  go_wp2
  go_ret
  exact ⟨rfl, hb0⟩
set_option maxRecDepth 100000 in
theorem busDevice2 : Calls Try.prog 84 #[.agg #[.pointer (some p0), .pointer (some p1), .pointer (some p2), .pointer (some p3)], .int .i64 2] w fun e w' => e = .returned (.iface 66 (.pointer (some p1))) ∧ Below w.heap.size w w' := by
  have hb0 := alloc_below w (.cells #[.pointer (some p0), .pointer (some p1), .pointer (some p2), .pointer (some p3)] 70)
  go_enter Try.func84, Try.ntmps84
  go_wp2
  go_ret
  exact ⟨rfl, hb0⟩
set_option maxRecDepth 100000 in
theorem busDevice3 : Calls Try.prog 84 #[.agg #[.pointer (some p0), .pointer (some p1), .pointer (some p2), .pointer (some p3)], .int .i64 3] w fun e w' => e = .returned (.iface 67 (.pointer (some p2))) ∧ Below w.heap.size w w' := by
  have hb0 := alloc_below w (.cells #[.pointer (some p0), .pointer (some p1), .pointer (some p2), .pointer (some p3)] 70)
  go_enter Try.func84, Try.ntmps84
  go_wp2
  go_ret
  exact ⟨rfl, hb0⟩
set_option maxRecDepth 100000 in
theorem busDevice0 : Calls Try.prog 84 #[.agg #[.pointer (some p0), .pointer (some p1), .pointer (some p2), .pointer (some p3)], .int .i64 0] w fun e w' => e = .returned (.iface 68 (.pointer (some p3))) ∧ Below w.heap.size w w' := by
  have hb0 := alloc_below w (.cells #[.pointer (some p0), .pointer (some p1), .pointer (some p2), .pointer (some p3)] 70)
  go_enter Try.func84, Try.ntmps84
  go_wp2
  go_ret
  exact ⟨rfl, hb0⟩
end

set_option maxRecDepth 100000 in
theorem workRead (b k c n : Nat) (A : Option Addr) (zs : List Int) (w : World) (hl : zs.length = n) (hn : n = 256) (hk : k < n) (X : Box w b 97 #[.slice A n c]) (h : IntL w A zs) :
    Calls Try.prog 125 #[.pointer (some ⟨b, 0, none⟩), .int .i64 k] w fun e w' => e = .returned (.int .i64 (zs.getD k 0)) ∧ w = w' := by
  obtain ⟨bb, off, rfl, hc⟩ := h k (by omega)
  generalize zs.getD k 0 = x at hc
  have x0 := X.cell 0 rfl
  have hi : (k : Int) < (n : Int) := by omega
  clear h hl X
  go_enter Try.func125, Try.ntmps125
  go_wp2
  go_ret
  exact ⟨rfl, rfl⟩
set_option maxRecDepth 100000 in
theorem regsRead (b k c n : Nat) (A : Option Addr) (zs : List Int) (w : World) (hl : zs.length = n) (hn : n = 32) (hk : k < n) (X : Box w b 98 #[.slice A n c]) (h : IntL w A zs) :
    Calls Try.prog 127 #[.pointer (some ⟨b, 0, none⟩), .int .i64 k] w fun e w' => e = .returned (.int .i64 (zs.getD k 0)) ∧ w = w' := by
  obtain ⟨bb, off, rfl, hc⟩ := h k (by omega)
  generalize zs.getD k 0 = x at hc
  have x0 := X.cell 0 rfl
  have hi : (k : Int) < (n : Int) := by omega
  clear h hl X
  go_enter Try.func127, Try.ntmps127
  go_wp2
  go_ret
  exact ⟨rfl, rfl⟩
set_option maxRecDepth 100000 in
theorem openRead (p : Addr) (k : Int) (w : World) : Calls Try.prog 137 #[.pointer (some p), .int .i64 k] w fun e w' => e = .returned (.int .i64 255) ∧ w = w' := by
  go_enter Try.func137, Try.ntmps137
  go_wp2
  go_ret
  exact ⟨rfl, rfl⟩
set_option maxRecDepth 100000 in
theorem openWrite (p : Addr) (k v : Int) (w : World) : Calls Try.prog 138 #[.pointer (some p), .int .i64 k, .int .i64 v] w fun e w' => e = .returned (.tuple #[]) ∧ w = w' := by
  go_enter Try.func138, Try.ntmps138
  go_wp2
  go_end0
  exact ⟨rfl, rfl⟩

/-- A box of another type that holds a chip's cells. -/
theorem Box.rangeL {w : World} {b : Nat} {t : TypeId} {cs : List Value} (h : Box w b t cs.toArray) : w.rangeAt b 0 cs := fun j v hv => by
  rw [Nat.zero_add]; exact h.cell j (by simpa using hv)
theorem Box.thereL {w : World} {b : Nat} {t : TypeId} {cs : List Value} (h : Box w b t cs.toArray) : w.there b 0 cs.length := fun j hj => by
  rw [Nat.zero_add]
  exact ⟨by rw [h.cell j (by rw [List.getElem?_toArray, List.getElem?_eq_getElem hj])]; rfl, h.frozen j⟩
theorem Box.putL {w : World} {b : Nat} {t : TypeId} {cs cs' : List Value} (h : Box w b t cs.toArray) (hl : cs'.length = cs.length) : Box (w.setCells b 0 cs') b t cs'.toArray := by
  have := setCells_list cs' [] cs h (by rw [hl])
  exact this
theorem btw_setCells {a : World} {b : Nat} : ∀ (cs : List Value) (o : Nat) (w : World), Btw b (b + 1) a w → Btw b (b + 1) a (w.setCells b o cs)
  | [], _, _, h => h
  | v :: vs, o, w, h => btw_setCells vs (o + 1) _ (h.setCell (p := ⟨b, o, none⟩) (Nat.le_refl _) (Nat.lt_succ_self _) v)
theorem OwnI.awayB {w w' : World} {lo hi b : Nat} {A : Option Addr} {zs : List Int} {t : TypeId} {cs : Array Value} (h : OwnI w lo hi A zs) (X : Box w b t cs) (ht : t ≠ 3) (hb : Btw b (b + 1) w w') : OwnI w' lo hi A zs := by
  rcases h with e | ⟨g, m, f, e, h1, h2, hm, hr, hf⟩
  · exact .inl e
  · exact .inr ⟨g, m, f, e, h1, h2, hm, hb.row hr (by have := X.ne hr ht; omega), hf⟩
theorem Box.awayB {w w' : World} {b b' : Nat} {t t' : TypeId} {cs cs' : Array Value} (h : Box w b t cs) (X : Box w b' t' cs') (ht : t ≠ t') (hb : Btw b' (b' + 1) w w') : Box w' b t cs := h.btw hb (by have := h.box_ne X ht; omega)

theorem size_setCells (b : Nat) : ∀ (cs : List Value) (o : Nat) (w : World), (w.setCells b o cs).heap.size = w.heap.size
  | [], _, _ => rfl
  | v :: vs, o, w => (size_setCells b vs (o + 1) _).trans (by simp [World.setCell])
theorem below_setCellsN {n : Nat} {w0 w : World} {b : Nat} (h : Below n w0 w) (hb : n ≤ b) : ∀ (o : Nat) (cs : List Value), Below n w0 (w.setCells b o cs) := by
  intro o cs
  induction cs generalizing w o with
  | nil => exact h
  | cons v vs ih => exact ih (h.setCell (p := ⟨b, o, none⟩) hb v) (o + 1)

section
variable {w w' : World} {lo g b0 b1 b2 b3 : Nat} {A0 A1 : Option Addr} {c0 c1 : Nat} {ram io zs : List Int} {gs : List Bool} {st : Int}
theorem BusAt.step (B : BusAt w lo g b0 b1 b2 b3 A0 A1 c0 c1 ram io zs gs st) (k : Below w.heap.size w w') : BusAt w' lo g b0 b1 b2 b3 A0 A1 c0 c1 ram io zs gs st :=
  ⟨B.r.step k, B.i.step k, B.f.step k, B.o.step k, B.R.below k, (B.I.below k).wideB (Nat.le_refl _) k.size, B.l.1, B.l.2.1, B.l.2.2.1, B.l.2.2.2.1, B.l.2.2.2.2.1, Nat.le_trans B.l.2.2.2.2.2 k.size⟩
/-- What a write leaves of a bus. -/
def Writes (lo g b0 b1 b2 b3 : Nat) (A0 A1 : Option Addr) (c0 c1 : Nat) (ram io zs : List Int) (gs : List Bool) (st : Int) (w : World) (e : Ending) (w' : World) : Prop :=
  e = .returned (.tuple #[]) ∧ Hid (BusAt w' lo g b0 b1 b2 b3 A0 A1 c0 c1 ram io zs gs st) ∧ Hid (∀ b t cs, t ≠ 3 → t ≠ 100 → Box w b t cs → Box w' b t cs) ∧ Below lo w w'
end

section
variable (lo g b0 b1 b2 b3 : Nat) (A0 A1 : Option Addr) (c0 c1 : Nat) (ram io zs : List Int) (gs : List Bool) (st : Int) (w : World)
set_option maxRecDepth 100000 in
theorem workWrite (k : Nat) (v : Int) (hk : k < 256) (hl : ram.length = 256) (B : BusAt w lo g b0 b1 b2 b3 A0 A1 c0 c1 ram io zs gs st) :
    Calls Try.prog 126 #[.pointer (some ⟨b0, 0, none⟩), .int .i64 k, .int .i64 v] w (Writes lo g b0 b1 b2 b3 A0 A1 c0 c1 (ram.set k v) io zs gs st w) := by
  obtain ⟨ba, ma, fa, rfl, hca, hfa, hlo, hhi, hra, hput⟩ := B.R.put k (by omega)
  have hbw : Btw ba (ba + 1) w (w.setCell ⟨ba, k, none⟩ (.int .i64 v)) := (Btw.refl _ _ _).setCell (p := ⟨ba, k, none⟩) (Nat.le_refl _) (Nat.lt_succ_self _) _
  have HB : Hid (BusAt (w.setCell ⟨ba, k, none⟩ (.int .i64 v)) lo g b0 b1 b2 b3 (some ⟨ba, 0, none⟩) A1 c0 c1 (ram.set k v) io zs gs st) := Lib.hid ⟨B.r.other hra (by decide) _ _, B.i.other hra (by decide) _ _, B.f.other hra (by decide) _ _, B.o.other hra (by decide) _ _, hput v, (B.I.btw hbw (.inr (by omega))).wideB (Nat.le_refl _) (by simp [World.setCell]), by simpa [World.setCell] using B.l⟩
  have HW : Hid (Below lo w (w.setCell ⟨ba, k, none⟩ (.int .i64 v))) := Lib.hid ((Below.refl _ _).setCell (p := ⟨ba, k, none⟩) hlo _)
  have HO : Hid (∀ b t cs, t ≠ 3 → t ≠ 100 → Box w b t cs → Box (w.setCell ⟨ba, k, none⟩ (.int .i64 v)) b t cs) := Lib.hid (fun b t cs h _ X => X.other hra h _ _)
  have x0 := B.r.cell 0 rfl
  generalize ram.getD k 0 = x at hca
  have hi : (k : Int) < 256 := by omega
  clear B hput hra hbw hlo hhi hl
  go_enter Try.func126, Try.ntmps126
  go_wp2
  go_end0
  exact ⟨rfl, HB, HO, HW.out⟩
set_option maxRecDepth 100000 in
theorem regsWrite (k : Nat) (v : Int) (hk : k < 32) (h0 : 0 < k) (hl : io.length = 32) (B : BusAt w lo g b0 b1 b2 b3 A0 A1 c0 c1 ram io zs gs st) :
    Calls Try.prog 128 #[.pointer (some ⟨b1, 0, none⟩), .int .i64 k, .int .i64 v] w (Writes lo g b0 b1 b2 b3 A0 A1 c0 c1 ram (io.set k v) zs gs st w) := by
  obtain ⟨ba, ma, fa, rfl, hca, hfa, hlo, hhi, hra, hput⟩ := B.I.put k (by omega)
  have hbw : Btw ba (ba + 1) w (w.setCell ⟨ba, k, none⟩ (.int .i64 v)) := (Btw.refl _ _ _).setCell (p := ⟨ba, k, none⟩) (Nat.le_refl _) (Nat.lt_succ_self _) _
  have HB : Hid (BusAt (w.setCell ⟨ba, k, none⟩ (.int .i64 v)) lo g b0 b1 b2 b3 A0 (some ⟨ba, 0, none⟩) c0 c1 ram (io.set k v) zs gs st) := Lib.hid ⟨B.r.other hra (by decide) _ _, B.i.other hra (by decide) _ _, B.f.other hra (by decide) _ _, B.o.other hra (by decide) _ _, B.R.btw hbw (.inl hlo), (hput v).wideB (Nat.le_refl _) (by simp [World.setCell]), by simpa [World.setCell] using B.l⟩
  have HW : Hid (Below lo w (w.setCell ⟨ba, k, none⟩ (.int .i64 v))) := Lib.hid ((Below.refl _ _).setCell (p := ⟨ba, k, none⟩) (Nat.le_trans B.l.2.2.2.2.1 hlo) _)
  have HO : Hid (∀ b t cs, t ≠ 3 → t ≠ 100 → Box w b t cs → Box (w.setCell ⟨ba, k, none⟩ (.int .i64 v)) b t cs) := Lib.hid (fun b t cs h _ X => X.other hra h _ _)
  have x0 := B.i.cell 0 rfl
  generalize io.getD k 0 = x at hca
  have hi : (k : Int) < 32 := by omega
  have hq : ((k : Int) != 0) = true := by simp; omega
  clear B hput hra hbw hlo hhi hl
  go_enter Try.func128, Try.ntmps128
  go_wp2
  go_end0
  exact ⟨rfl, HB, HO, HW.out⟩
set_option maxRecDepth 100000 in
theorem regsWrite0 (v : Int) (B : BusAt w lo g b0 b1 b2 b3 A0 A1 c0 c1 ram io zs gs st) :
    Calls Try.prog 128 #[.pointer (some ⟨b1, 0, none⟩), .int .i64 0, .int .i64 v] w (Writes lo g b0 b1 b2 b3 A0 A1 c0 c1 ram io zs gs st w) := by
  have HB := Lib.hid B
  clear B
  go_enter Try.func128, Try.ntmps128
  go_wp2
  go_end0
  exact ⟨rfl, HB, Lib.hid (fun _ _ _ _ _ X => X), Below.refl _ _⟩
set_option maxRecDepth 100000 in
theorem cartRead (k : Nat) (hz : zs.length = 256) (hg : gs.length = 16) (hk : k ≤ 255) (hzs : ∀ z ∈ zs, 0 ≤ z ∧ z ≤ 255) (X : Box w b2 100 (chipC zs gs st).toArray) :
    Calls Try.prog 129 #[.pointer (some ⟨b2, 0, none⟩), .int .i64 k] w fun e w' => e = .returned (.int .i64 (readV zs gs st k)) ∧ Below w.heap.size w w' := by
  have HR := Lib.hid (chipRead k zs gs st w hz hg hk hzs)
  have HL := Lib.hid (And.intro X.rangeL (sizeC zs gs st hz hg))
  generalize readV zs gs st k = r at HR
  generalize chipC zs gs st = cs at HR HL
  clear X hz hg hzs
  go_enter Try.func129, Try.ntmps129
  go_wp2_with (first
    | (with_reducible refine wpList_load_mid rfl 86 (.tmp 7) rfl b2 0 rfl cs _ HL.out.1 Try.underlying86 rfl HL.out.2 ?_))
  refine HR.out.mono ?_
  rintro e w2 ⟨rfl, hb2⟩
  go_wp2
  go_ret
  exact ⟨rfl, hb2⟩
set_option maxRecDepth 100000 in
set_option maxHeartbeats 1000000 in
theorem cartWrite (k v : Nat) (hz : zs.length = 256) (hg : gs.length = 16) (hs : 0 ≤ st ∧ st ≤ 8) (hk : k < 256) (hv : v < 256) (hzs : ∀ z ∈ zs, 0 ≤ z ∧ z ≤ 255) (B : BusAt w lo g b0 b1 b2 b3 A0 A1 c0 c1 ram io zs gs st) :
    Calls Try.prog 130 #[.pointer (some ⟨b2, 0, none⟩), .int .i64 k, .int .i64 v] w (Writes lo g b0 b1 b2 b3 A0 A1 c0 c1 ram io (cycZ zs gs st k v) (cycG gs st k) (nextS st k v) w) := by
  have HR := Lib.hid (chipCycle k v zs gs st w hz hg hs hk hv hzs)
  unfold GivesChip at HR
  have HL := Lib.hid (And.intro B.f.rangeL (sizeC zs gs st hz hg))
  have HN : Hid (∀ w2, Below w.heap.size w w2 → w2.there b2 0 (chipC (cycZ zs gs st k v) (cycG gs st k) (nextS st k v)).toArray.size ∧ BusAt (w2.setCells b2 0 (chipC (cycZ zs gs st k v) (cycG gs st k) (nextS st k v))) lo g b0 b1 b2 b3 A0 A1 c0 c1 ram io (cycZ zs gs st k v) (cycG gs st k) (nextS st k v) ∧ ∀ b t cs, t ≠ 3 → t ≠ 100 → Box w b t cs → Box (w2.setCells b2 0 (chipC (cycZ zs gs st k v) (cycG gs st k) (nextS st k v))) b t cs) := Lib.hid (fun w2 hb => by
    have X := B.step hb
    have hl : (chipC (cycZ zs gs st k v) (cycG gs st k) (nextS st k v)).length = (chipC zs gs st).length := by rw [chipC_len, chipC_len, cycZ_len, cycG_len]
    have hbw := btw_setCells (chipC (cycZ zs gs st k v) (cycG gs st k) (nextS st k v)) 0 w2 (Btw.refl b2 (b2 + 1) w2)
    have hsz : (w2.setCells b2 0 (chipC (cycZ zs gs st k v) (cycG gs st k) (nextS st k v))).heap.size = w2.heap.size := size_setCells _ _ _ _
    refine ⟨by rw [List.size_toArray, hl]; exact X.f.thereL, ⟨X.r.awayB X.f (by decide) hbw, X.i.awayB X.f (by decide) hbw, X.f.putL hl, X.o.awayB X.f (by decide) hbw, X.R.awayB X.f (by decide) hbw, (X.I.awayB X.f (by decide) hbw).wideB (Nat.le_refl _) (by rw [hsz]; exact Nat.le_refl _), by rw [hsz]; exact X.l⟩, fun b t cs _ h Y => (Y.step hb).awayB X.f h hbw⟩)
  have HS : Hid ((Try.prog.info? 86).map (·.size) = some (chipC (cycZ zs gs st k v) (cycG gs st k) (nextS st k v)).toArray.size ∧ (chipC (cycZ zs gs st k v) (cycG gs st k) (nextS st k v)).toArray.all (·.oneCell') = true) := Lib.hid ⟨(sizeC _ _ _ (by rw [cycZ_len]; exact hz) (by rw [cycG_len]; exact hg)).trans (congrArg some List.size_toArray.symm), all_oneCell_toArray (chipC_one _ _ _)⟩
  have hlo := B.l.2.2.1
  have hbl : Below lo w w := Below.refl _ _
  have HQ : Hid (lo ≤ w.heap.size) := Lib.hid (Nat.le_of_lt (Nat.lt_of_le_of_lt hlo B.f.lt))
  generalize chipC zs gs st = ca at HR HL
  generalize hcb : chipC (cycZ zs gs st k v) (cycG gs st k) (nextS st k v) = cb at HR HN HS
  have hwr := wrap8 (v : Int) (by omega) (by omega)
  have hmd : (v : Int) % 256 = v := by omega
  clear hz hg hs hzs B hcb
  go_enter Try.func130, Try.ntmps130
  go_wp2_with (first
    | (with_reducible refine wpList_load_mid rfl 86 (.tmp 9) rfl b2 0 rfl ca _ HL.out.1 Try.underlying86 rfl HL.out.2 ?_))
  refine HR.out.mono ?_
  rintro e w2 ⟨rfl, hb2⟩
  obtain ⟨hr, hB, hO⟩ := HN.out w2 hb2
  have HRoom := Lib.hid hr
  have HBus := Lib.hid hB
  have HO := Lib.hid hO
  clear hr hB hO HN
  go_wp2_with (first
    | (with_reducible refine wpList_store_mid rfl 86 (.tmp 16) (.tmp 14) rfl b2 0 cb.toArray rfl rfl HRoom.out HS.out.1 HS.out.2 ?_))
  go_end0
  exact ⟨rfl, HBus, HO, (hb2.mono HQ.out).trans (below_setCellsN (Below.refl _ _) hlo 0 cb)⟩
end
end Go.Proofs.Ytdanefhfngmipaa

/- impl.bus.mem: the memory that the devices hold. Written by gen_busmem.py. -/
namespace Go.Proofs.Ytdanefhfngmipaa
open Go.RowKit

def YV5 (b : Nat) (W : World) (j : Nat) : Value := (W.cell? ⟨b, j, none⟩).getD undef
theorem YV5.of {b : Nat} {W : World} {t : TypeId} {cs : Array Value} (h : Box W b t cs) (hs : cs.size = 5) (j : Nat) (hj : j < 5) : W.cell? ⟨b, j, none⟩ = some (YV5 b W j) := by
  have := h.cell j (Array.getElem?_eq_getElem (by omega : j < cs.size))
  unfold YV5; rw [this]; rfl
theorem arr5 (T : Array Value) (h : T.size = 5) : ∃ t0 t1 t2 t3 t4 : Value, T = #[t0, t1, t2, t3, t4] := by
  obtain ⟨l⟩ := T
  match l, h with
  | [t0, t1, t2, t3, t4], _ => exact ⟨t0, t1, t2, t3, t4, rfl⟩
theorem Box.all5 {w : World} {b : Nat} {t : TypeId} {cs : Array Value} (X : Box w b t cs) (hs : cs.size = 5) (u0 u1 u2 u3 u4 : Value) :
    Box (((((w.setCell ⟨b, 0, none⟩ u0).setCell ⟨b, 1, none⟩ u1).setCell ⟨b, 2, none⟩ u2).setCell ⟨b, 3, none⟩ u3).setCell ⟨b, 4, none⟩ u4) b t #[u0, u1, u2, u3, u4] := by
  have := ((((X.set 0 u0).set 1 u1).set 2 u2).set 3 u3).set 4 u4
  obtain ⟨t0, t1, t2, t3, t4, rfl⟩ := arr5 cs hs
  exact this
/-- A world of such a region: the blocks up to the argument's are as they were, the result's block is there. -/
def RM (W0 : World) (m : Nat) (W : World) : Prop := Below (m + 1) W0 W ∧ W0.heap.size ≤ W.heap.size ∧ ∃ cs : Array Value, cs.size = 5 ∧ Box W (m + 1) 28 cs
theorem RM.le {W0 W : World} {m : Nat} (h : RM W0 m W) : m + 1 ≤ W.heap.size := by
  obtain ⟨a, q, cs, hs, b⟩ := h
  exact Nat.le_of_lt b.lt
theorem RM.alloc {W0 W : World} {m : Nat} (h : RM W0 m W) (o : Obj) : RM W0 m (W.alloc o) := by
  have hl := h.le
  obtain ⟨a, q, cs, hs, b⟩ := h
  exact ⟨a.trans ((alloc_below W o).mono hl), by simp; omega, cs, hs, b.alloc o⟩
theorem RM.step {W0 W W' : World} {m : Nat} (h : RM W0 m W) (k : Below W.heap.size W W') : RM W0 m W' := by
  have hl := h.le
  obtain ⟨a, q, cs, hs, b⟩ := h
  exact ⟨a.trans (k.mono hl), Nat.le_trans q k.size, cs, hs, b.step k⟩
theorem RM.set {W0 W : World} {m : Nat} (h : RM W0 m W) (j : Nat) (v : Value) : RM W0 m (W.setCell ⟨m + 1, j, none⟩ v) := by
  obtain ⟨a, q, cs, hs, b⟩ := h
  exact ⟨a.setCell (p := ⟨m + 1, j, none⟩) (Nat.le_refl _) v, by simpa [World.setCell] using q, _, by simpa using hs, b.set j v⟩
theorem Btw.of_low {n : Nat} {w w' : World} (h : Below n w w') : Btw n w.heap.size w w' := ⟨h.os, h.tape, h.output, h.size, fun k hk q => h.block k (by omega)⟩

theorem arr20 (T : Array Value) (h : T.size = 20) : ∃ t0 t1 t2 t3 t4 t5 t6 t7 t8 t9 t10 t11 t12 t13 t14 t15 t16 t17 t18 t19 : Value, T = #[t0, t1, t2, t3, t4, t5, t6, t7, t8, t9, t10, t11, t12, t13, t14, t15, t16, t17, t18, t19] := by
  obtain ⟨l⟩ := T
  match l, h with
  | [t0, t1, t2, t3, t4, t5, t6, t7, t8, t9, t10, t11, t12, t13, t14, t15, t16, t17, t18, t19], _ => exact ⟨t0, t1, t2, t3, t4, t5, t6, t7, t8, t9, t10, t11, t12, t13, t14, t15, t16, t17, t18, t19, rfl⟩

/-- The memory that a bus hands over. -/
def GivesMemOf (A0 A1 : Option Addr) (c0 c1 : Nat) (zs : List Int) (gs : List Bool) (st : Int) (w : World) (e : Ending) (w' : World) : Prop :=
  ∃ A c C d, e = .returned (.agg #[.slice A0 256 c0, .slice A1 32 c1, .slice A 256 c, .slice C 16 d, .int .i64 st]) ∧ Hid (OwnI w' w.heap.size w'.heap.size A zs) ∧ Hid (OwnB w' w.heap.size w'.heap.size C gs) ∧ Below w.heap.size w w'
def memF (M hs : Nat) (b0 b1 b2 : Nat) (s0 s1 : Value) (cs : List Value) (zs : List Int) (gs : List Bool) (st : Int) : Nat → (Nat → Value) → World → Prop
  | 0, t, _ => t 3 = .pointer (some ⟨M, 0, none⟩)
  | 1, t, _ => t 4 = .pointer (some ⟨b0, 0, none⟩)
  | 2, t, _ => t 5 = .pointer (some ⟨b0, 0, none⟩)
  | 3, t, _ => t 6 = .pointer (some ⟨b0, 0, none⟩)
  | 4, t, _ => t 7 = s0
  | 5, t, _ => t 8 = .pointer (some ⟨M, 1, none⟩)
  | 6, t, _ => t 9 = .pointer (some ⟨b1, 0, none⟩)
  | 7, t, _ => t 10 = .pointer (some ⟨b1, 0, none⟩)
  | 8, t, _ => t 11 = .pointer (some ⟨b1, 0, none⟩)
  | 9, t, _ => t 12 = s1
  | 10, t, _ => t 13 = .pointer (some ⟨M, 2, none⟩)
  | 11, t, _ => t 14 = .pointer (some ⟨b2, 0, none⟩)
  | 12, t, _ => t 15 = .pointer (some ⟨b2, 0, none⟩)
  | 13, t, _ => t 16 = .pointer (some ⟨b2, 0, none⟩)
  | 14, t, _ => t 17 = .agg cs.toArray
  | 15, t, w => ∃ A c C d, t 18 = .agg #[.slice A 256 c, .slice C 16 d, .int .i64 st] ∧ OwnI w hs w.heap.size A zs ∧ OwnB w hs w.heap.size C gs
  | 16, t, _ => ∃ A c C d, t 18 = .agg #[.slice A 256 c, .slice C 16 d, .int .i64 st] ∧ t 19 = .agg #[s0, s1, .slice A 256 c, .slice C 16 d, .int .i64 st]
  | 17, t, w => ∃ A c C d, t 18 = .agg #[.slice A 256 c, .slice C 16 d, .int .i64 st] ∧ Box w (M + 1) 28 #[s0, s1, .slice A 256 c, .slice C 16 d, .int .i64 st]
  | _, _, _ => True
section
variable {M hs b0 b1 b2 : Nat} {s0 s1 : Value} {cs : List Value} {zs : List Int} {gs : List Bool} {st : Int} {w w' : World}
theorem memF_below (k : Below w.heap.size w w') : ∀ (j : Nat) (t : Nat → Value), memF M hs b0 b1 b2 s0 s1 cs zs gs st j t w → memF M hs b0 b1 b2 s0 s1 cs zs gs st j t w'
  | 0, _, h | 1, _, h | 2, _, h | 3, _, h | 4, _, h | 5, _, h | 6, _, h | 7, _, h | 8, _, h | 9, _, h | 10, _, h | 11, _, h | 12, _, h | 13, _, h | 14, _, h | 16, _, h => h
  | 15, _, ⟨A, c, C, d, e, S, Q⟩ => ⟨A, c, C, d, e, (S.below k).wideB (Nat.le_refl _) k.size, (Q.below k).wide (Nat.le_refl _) k.size⟩
  | 17, _, ⟨A, c, C, d, e, h⟩ => ⟨A, c, C, d, e, h.step k⟩
  | _ + 18, _, _ => trivial
theorem memF_store {ys : Array Value} (Y : Box w (M + 1) 28 ys) (i : Nat) (u : Value) : ∀ (j : Nat) (t : Nat → Value), j ≠ 17 → memF M hs b0 b1 b2 s0 s1 cs zs gs st j t w → memF M hs b0 b1 b2 s0 s1 cs zs gs st j t (w.setCell ⟨M + 1, i, none⟩ u)
  | 0, _, _, h | 1, _, _, h | 2, _, _, h | 3, _, _, h | 4, _, _, h | 5, _, _, h | 6, _, _, h | 7, _, _, h | 8, _, _, h | 9, _, _, h | 10, _, _, h | 11, _, _, h | 12, _, _, h | 13, _, _, h | 14, _, _, h | 16, _, _, h => h
  | 15, _, _, ⟨A, c, C, d, e, S, Q⟩ => ⟨A, c, C, d, e, (S.farB Y (by decide) i u).wideB (Nat.le_refl _) (by simp [World.setCell]), (Q.far Y (by decide) i u).wide (Nat.le_refl _) (by simp [World.setCell])⟩
  | 17, _, n, _ => (n rfl).elim
  | _ + 18, _, _, _ => trivial
end

set_option maxRecDepth 100000 in
set_option maxHeartbeats 8000000 in
theorem busMem (lo g b0 b1 b2 b3 : Nat) (A0 A1 : Option Addr) (c0 c1 : Nat) (ram io zs : List Int) (gs : List Bool) (st : Int) (w : World) (hz : zs.length = 256) (hg : gs.length = 16) (hzs : ∀ z ∈ zs, 0 ≤ z ∧ z ≤ 255) (B : BusAt w lo g b0 b1 b2 b3 A0 A1 c0 c1 ram io zs gs st) :
    Calls Try.prog 46 #[.agg #[.pointer (some ⟨b0, 0, none⟩), .pointer (some ⟨b1, 0, none⟩), .pointer (some ⟨b2, 0, none⟩), .pointer (some ⟨b3, 0, none⟩)]] w (GivesMemOf A0 A1 c0 c1 zs gs st w) := by
  obtain ⟨W0, hW0⟩ : ∃ W0, W0 = ((w.alloc (.cells #[.pointer (some ⟨b0, 0, none⟩), .pointer (some ⟨b1, 0, none⟩), .pointer (some ⟨b2, 0, none⟩), .pointer (some ⟨b3, 0, none⟩)] 70)).alloc (.cells #[.slice none 0 0, .slice none 0 0, .slice none 0 0, .slice none 0 0, .int .i64 0] 28)) := ⟨_, rfl⟩
  have hb0 : Below w.heap.size w W0 := by rw [hW0]; exact bt (alloc_below _ _) (alloc_below _ _)
  have X0 : Box W0 w.heap.size 70 #[.pointer (some ⟨b0, 0, none⟩), .pointer (some ⟨b1, 0, none⟩), .pointer (some ⟨b2, 0, none⟩), .pointer (some ⟨b3, 0, none⟩)] := by rw [hW0]; exact (Box.new _ _ _).alloc _
  have Y0 : Box W0 (w.heap.size + 1) 28 #[.slice none 0 0, .slice none 0 0, .slice none 0 0, .slice none 0 0, .int .i64 0] := by rw [hW0]; simpa using Box.new (w.alloc (.cells #[.pointer (some ⟨b0, 0, none⟩), .pointer (some ⟨b1, 0, none⟩), .pointer (some ⟨b2, 0, none⟩), .pointer (some ⟨b3, 0, none⟩)] 70)) 28 #[.slice none 0 0, .slice none 0 0, .slice none 0 0, .slice none 0 0, .int .i64 0]
  have hs0 : W0.heap.size = w.heap.size + 2 := by rw [hW0]; simp
  have HB : Hid (∀ W, RM W0 w.heap.size W → Below w.heap.size w W) := Lib.hid (fun W r => hb0.trans (r.1.mono (by omega)))
  have HFl := Lib.hid (fun W => chipFlash zs gs st W hz hg hzs)
  have HSz := Lib.hid (sizeC zs gs st hz hg)
  have HL := Lib.hid (And.intro hz hg)
  have HK : Hid (∀ W', RM W0 w.heap.size W' → W'.cell? ⟨w.heap.size, 0, none⟩ = some (.pointer (some ⟨b0, 0, none⟩)) ∧ W'.cell? ⟨w.heap.size, 1, none⟩ = some (.pointer (some ⟨b1, 0, none⟩)) ∧ W'.cell? ⟨w.heap.size, 2, none⟩ = some (.pointer (some ⟨b2, 0, none⟩)) ∧ W'.cell? ⟨b0, 0, none⟩ = some (.slice A0 256 c0) ∧ W'.cell? ⟨b1, 0, none⟩ = some (.slice A1 32 c1) ∧ True ∧ W'.rangeAt b2 0 (chipC zs gs st) ∧ True) := Lib.hid (fun W' r => by
    have X := X0.below r.1 (by omega)
    have q := HB.out _ r
    exact ⟨X.cell 0 rfl, X.cell 1 rfl, X.cell 2 rfl, (B.r.step q).cell 0 rfl, (B.i.step q).cell 0 rfl, trivial, (B.f.step q).rangeL, trivial⟩)
  generalize hcs : chipC zs gs st = cs at HFl HSz HK
  have HW0 := Lib.hid hW0
  have R0 : RM W0 w.heap.size W0.drew := ⟨(Below.refl _ _).drew, Nat.le_refl _, _, rfl, Y0⟩
  have hq0 : w.heap.size ≤ W0.heap.size := by omega
  clear hz hg hzs B X0 Y0 hW0 hs0 hb0 hcs
  go_enter Try.func46, Try.ntmps46
  go_wp2
  rw [← HW0.out]
  refine wp_region_facts (by kernel_rfl) [[3], [4], [5], [6], [7], [8], [9], [10], [11], [12], [13], [14], [15], [16], [17], [18], [18, 19], [18]] [[], [0], [0, 1], [0, 1, 2], [0, 1, 2, 3], [], [5], [5, 6], [5, 6, 7], [5, 6, 7, 8], [], [10], [10, 11], [10, 11, 12], [10, 11, 12, 13], [10, 11, 12, 13, 14], [4, 9, 15, 0, 1, 2, 3, 5, 6, 7, 8, 10, 11, 12, 13, 14], [0, 1, 2, 3, 4, 5, 6, 7, 8, 9, 10, 11, 12, 13, 14, 15, 16]] [0, 1, 2] (by kernel_rfl) (RM W0 w.heap.size) (memF w.heap.size W0.heap.size b0 b1 b2 (.slice A0 256 c0) (.slice A1 32 c1) cs zs gs st) R0 ?_ ?_
  · refine ⟨?_, ?_, ?_, ?_, ?_, ?_, ?_, ?_, ?_, ?_, ?_, ?_, ?_, ?_, ?_, ?_, ?_, ?_, trivial⟩
    · intro T W hT hs hC hF K hK
      obtain ⟨t0, t1, t2, t3, t4, t5, t6, t7, t8, t9, t10, t11, t12, t13, t14, t15, t16, t17, t18, t19, rfl⟩ := arr20 T hT
      obtain rfl : t1 = .pointer (some ⟨w.heap.size, 0, none⟩) := hs 1 (by decide)
      obtain rfl : t2 = .pointer (some ⟨w.heap.size + 1, 0, none⟩) := hs 2 (by decide)
      clear hF hs hT
      go_simp
      exact hK.out _ W hC (fun _ _ _ h => h) rfl
    · intro T W hT hs hC hF K hK
      obtain ⟨t0, t1, t2, t3, t4, t5, t6, t7, t8, t9, t10, t11, t12, t13, t14, t15, t16, t17, t18, t19, rfl⟩ := arr20 T hT
      obtain rfl : t1 = .pointer (some ⟨w.heap.size, 0, none⟩) := hs 1 (by decide)
      obtain rfl : t2 = .pointer (some ⟨w.heap.size + 1, 0, none⟩) := hs 2 (by decide)
      have f0 := hF 0 (by decide)
      simp only [memF, mask] at f0
      clear hF hs hT
      subst f0
      obtain ⟨k0, k1, k2, m0, m1, -, -, -⟩ := HK.out W hC
      go_simp
      exact hK.out _ W hC (fun _ _ _ h => h) rfl
    · intro T W hT hs hC hF K hK
      obtain ⟨t0, t1, t2, t3, t4, t5, t6, t7, t8, t9, t10, t11, t12, t13, t14, t15, t16, t17, t18, t19, rfl⟩ := arr20 T hT
      obtain rfl : t1 = .pointer (some ⟨w.heap.size, 0, none⟩) := hs 1 (by decide)
      obtain rfl : t2 = .pointer (some ⟨w.heap.size + 1, 0, none⟩) := hs 2 (by decide)
      have f1 := hF 1 (by decide)
      simp only [memF, mask] at f1
      clear hF hs hT
      subst f1
      go_simp
      exact hK.out _ W hC (fun _ _ _ h => h) rfl
    · intro T W hT hs hC hF K hK
      obtain ⟨t0, t1, t2, t3, t4, t5, t6, t7, t8, t9, t10, t11, t12, t13, t14, t15, t16, t17, t18, t19, rfl⟩ := arr20 T hT
      obtain rfl : t1 = .pointer (some ⟨w.heap.size, 0, none⟩) := hs 1 (by decide)
      obtain rfl : t2 = .pointer (some ⟨w.heap.size + 1, 0, none⟩) := hs 2 (by decide)
      have f2 := hF 2 (by decide)
      simp only [memF, mask] at f2
      clear hF hs hT
      subst f2
      go_simp
      exact hK.out _ W hC (fun _ _ _ h => h) rfl
    · intro T W hT hs hC hF K hK
      obtain ⟨t0, t1, t2, t3, t4, t5, t6, t7, t8, t9, t10, t11, t12, t13, t14, t15, t16, t17, t18, t19, rfl⟩ := arr20 T hT
      obtain rfl : t1 = .pointer (some ⟨w.heap.size, 0, none⟩) := hs 1 (by decide)
      obtain rfl : t2 = .pointer (some ⟨w.heap.size + 1, 0, none⟩) := hs 2 (by decide)
      have f3 := hF 3 (by decide)
      simp only [memF, mask] at f3
      clear hF hs hT
      subst f3
      obtain ⟨k0, k1, k2, m0, m1, -, -, -⟩ := HK.out W hC
      go_simp
      exact hK.out _ W hC (fun _ _ _ h => h) rfl
    · intro T W hT hs hC hF K hK
      obtain ⟨t0, t1, t2, t3, t4, t5, t6, t7, t8, t9, t10, t11, t12, t13, t14, t15, t16, t17, t18, t19, rfl⟩ := arr20 T hT
      obtain rfl : t1 = .pointer (some ⟨w.heap.size, 0, none⟩) := hs 1 (by decide)
      obtain rfl : t2 = .pointer (some ⟨w.heap.size + 1, 0, none⟩) := hs 2 (by decide)
      clear hF hs hT
      go_simp
      exact hK.out _ W hC (fun _ _ _ h => h) rfl
    · intro T W hT hs hC hF K hK
      obtain ⟨t0, t1, t2, t3, t4, t5, t6, t7, t8, t9, t10, t11, t12, t13, t14, t15, t16, t17, t18, t19, rfl⟩ := arr20 T hT
      obtain rfl : t1 = .pointer (some ⟨w.heap.size, 0, none⟩) := hs 1 (by decide)
      obtain rfl : t2 = .pointer (some ⟨w.heap.size + 1, 0, none⟩) := hs 2 (by decide)
      have f5 := hF 5 (by decide)
      simp only [memF, mask] at f5
      clear hF hs hT
      subst f5
      obtain ⟨k0, k1, k2, m0, m1, -, -, -⟩ := HK.out W hC
      go_simp
      exact hK.out _ W hC (fun _ _ _ h => h) rfl
    · intro T W hT hs hC hF K hK
      obtain ⟨t0, t1, t2, t3, t4, t5, t6, t7, t8, t9, t10, t11, t12, t13, t14, t15, t16, t17, t18, t19, rfl⟩ := arr20 T hT
      obtain rfl : t1 = .pointer (some ⟨w.heap.size, 0, none⟩) := hs 1 (by decide)
      obtain rfl : t2 = .pointer (some ⟨w.heap.size + 1, 0, none⟩) := hs 2 (by decide)
      have f6 := hF 6 (by decide)
      simp only [memF, mask] at f6
      clear hF hs hT
      subst f6
      go_simp
      exact hK.out _ W hC (fun _ _ _ h => h) rfl
    · intro T W hT hs hC hF K hK
      obtain ⟨t0, t1, t2, t3, t4, t5, t6, t7, t8, t9, t10, t11, t12, t13, t14, t15, t16, t17, t18, t19, rfl⟩ := arr20 T hT
      obtain rfl : t1 = .pointer (some ⟨w.heap.size, 0, none⟩) := hs 1 (by decide)
      obtain rfl : t2 = .pointer (some ⟨w.heap.size + 1, 0, none⟩) := hs 2 (by decide)
      have f7 := hF 7 (by decide)
      simp only [memF, mask] at f7
      clear hF hs hT
      subst f7
      go_simp
      exact hK.out _ W hC (fun _ _ _ h => h) rfl
    · intro T W hT hs hC hF K hK
      obtain ⟨t0, t1, t2, t3, t4, t5, t6, t7, t8, t9, t10, t11, t12, t13, t14, t15, t16, t17, t18, t19, rfl⟩ := arr20 T hT
      obtain rfl : t1 = .pointer (some ⟨w.heap.size, 0, none⟩) := hs 1 (by decide)
      obtain rfl : t2 = .pointer (some ⟨w.heap.size + 1, 0, none⟩) := hs 2 (by decide)
      have f8 := hF 8 (by decide)
      simp only [memF, mask] at f8
      clear hF hs hT
      subst f8
      obtain ⟨k0, k1, k2, m0, m1, -, -, -⟩ := HK.out W hC
      go_simp
      exact hK.out _ W hC (fun _ _ _ h => h) rfl
    · intro T W hT hs hC hF K hK
      obtain ⟨t0, t1, t2, t3, t4, t5, t6, t7, t8, t9, t10, t11, t12, t13, t14, t15, t16, t17, t18, t19, rfl⟩ := arr20 T hT
      obtain rfl : t1 = .pointer (some ⟨w.heap.size, 0, none⟩) := hs 1 (by decide)
      obtain rfl : t2 = .pointer (some ⟨w.heap.size + 1, 0, none⟩) := hs 2 (by decide)
      clear hF hs hT
      go_simp
      exact hK.out _ W hC (fun _ _ _ h => h) rfl
    · intro T W hT hs hC hF K hK
      obtain ⟨t0, t1, t2, t3, t4, t5, t6, t7, t8, t9, t10, t11, t12, t13, t14, t15, t16, t17, t18, t19, rfl⟩ := arr20 T hT
      obtain rfl : t1 = .pointer (some ⟨w.heap.size, 0, none⟩) := hs 1 (by decide)
      obtain rfl : t2 = .pointer (some ⟨w.heap.size + 1, 0, none⟩) := hs 2 (by decide)
      have f10 := hF 10 (by decide)
      simp only [memF, mask] at f10
      clear hF hs hT
      subst f10
      obtain ⟨k0, k1, k2, m0, m1, -, -, -⟩ := HK.out W hC
      go_simp
      exact hK.out _ W hC (fun _ _ _ h => h) rfl
    · intro T W hT hs hC hF K hK
      obtain ⟨t0, t1, t2, t3, t4, t5, t6, t7, t8, t9, t10, t11, t12, t13, t14, t15, t16, t17, t18, t19, rfl⟩ := arr20 T hT
      obtain rfl : t1 = .pointer (some ⟨w.heap.size, 0, none⟩) := hs 1 (by decide)
      obtain rfl : t2 = .pointer (some ⟨w.heap.size + 1, 0, none⟩) := hs 2 (by decide)
      have f11 := hF 11 (by decide)
      simp only [memF, mask] at f11
      clear hF hs hT
      subst f11
      go_simp
      exact hK.out _ W hC (fun _ _ _ h => h) rfl
    · intro T W hT hs hC hF K hK
      obtain ⟨t0, t1, t2, t3, t4, t5, t6, t7, t8, t9, t10, t11, t12, t13, t14, t15, t16, t17, t18, t19, rfl⟩ := arr20 T hT
      obtain rfl : t1 = .pointer (some ⟨w.heap.size, 0, none⟩) := hs 1 (by decide)
      obtain rfl : t2 = .pointer (some ⟨w.heap.size + 1, 0, none⟩) := hs 2 (by decide)
      have f12 := hF 12 (by decide)
      simp only [memF, mask] at f12
      clear hF hs hT
      subst f12
      go_simp
      exact hK.out _ W hC (fun _ _ _ h => h) rfl
    · intro T W hT hs hC hF K hK
      obtain ⟨t0, t1, t2, t3, t4, t5, t6, t7, t8, t9, t10, t11, t12, t13, t14, t15, t16, t17, t18, t19, rfl⟩ := arr20 T hT
      obtain rfl : t1 = .pointer (some ⟨w.heap.size, 0, none⟩) := hs 1 (by decide)
      obtain rfl : t2 = .pointer (some ⟨w.heap.size + 1, 0, none⟩) := hs 2 (by decide)
      have f13 := hF 13 (by decide)
      simp only [memF, mask] at f13
      clear hF hs hT
      subst f13
      have hr := (HK.out W hC).2.2.2.2.2.2.1
      refine wp_load_mid _ _ rfl b2 0 rfl cs _ hr Try.underlying86 rfl HSz.out ?_
      exact hK.out _ W hC (fun _ _ _ h => h) rfl
    · intro T W hT hs hC hF K hK
      obtain ⟨t0, t1, t2, t3, t4, t5, t6, t7, t8, t9, t10, t11, t12, t13, t14, t15, t16, t17, t18, t19, rfl⟩ := arr20 T hT
      obtain rfl : t1 = .pointer (some ⟨w.heap.size, 0, none⟩) := hs 1 (by decide)
      obtain rfl : t2 = .pointer (some ⟨w.heap.size + 1, 0, none⟩) := hs 2 (by decide)
      have f14 := hF 14 (by decide)
      simp only [memF, mask] at f14
      clear hF hs hT
      subst f14
      go_simp
      refine (HFl.out W).mono ?_
      rintro e w1 ⟨A, n, c, C, m, d, rfl, L, M, S, Q, k⟩
      obtain rfl : n = 256 := by have := L.out; have := HL.out.1; omega
      obtain rfl : m = 16 := by have := M.out; have := HL.out.2; omega
      exact hK.out _ w1 (hC.step k) (fun j t _ h => memF_below k j t h) ⟨A, c, C, d, rfl, S.out.wideB hC.2.1 (Nat.le_refl _), Q.out.wide hC.2.1 (Nat.le_refl _)⟩
    · intro T W hT hs hC hF K hK
      obtain ⟨t0, t1, t2, t3, t4, t5, t6, t7, t8, t9, t10, t11, t12, t13, t14, t15, t16, t17, t18, t19, rfl⟩ := arr20 T hT
      obtain rfl : t1 = .pointer (some ⟨w.heap.size, 0, none⟩) := hs 1 (by decide)
      obtain rfl : t2 = .pointer (some ⟨w.heap.size + 1, 0, none⟩) := hs 2 (by decide)
      have f4 := hF 4 (by decide)
      simp only [memF, mask] at f4
      have f9 := hF 9 (by decide)
      simp only [memF, mask] at f9
      have f15 := hF 15 (by decide)
      simp only [memF, mask] at f15
      clear hF hs hT
      obtain ⟨A, c, C, d, e18, S, Q⟩ := f15
      subst f4 f9 e18
      clear S Q
      go_simp
      exact hK.out _ W hC (fun _ _ _ h => h) ⟨A, c, C, d, rfl, rfl⟩
    · intro T W hT hs hC hF K hK
      obtain ⟨t0, t1, t2, t3, t4, t5, t6, t7, t8, t9, t10, t11, t12, t13, t14, t15, t16, t17, t18, t19, rfl⟩ := arr20 T hT
      obtain rfl : t1 = .pointer (some ⟨w.heap.size, 0, none⟩) := hs 1 (by decide)
      obtain rfl : t2 = .pointer (some ⟨w.heap.size + 1, 0, none⟩) := hs 2 (by decide)
      have f16 := hF 16 (by decide)
      simp only [memF, mask] at f16
      clear hF hs hT
      obtain ⟨A, c, C, d, e18, e19⟩ := f16
      subst e18 e19
      obtain ⟨hCa, hCb, ys, hys, Y⟩ := hC
      have y0 := YV5.of Y hys 0 (by omega)
      have y1 := YV5.of Y hys 1 (by omega)
      have y2 := YV5.of Y hys 2 (by omega)
      have y3 := YV5.of Y hys 3 (by omega)
      have y4 := YV5.of Y hys 4 (by omega)
      have z0 := Y.frozen 0
      have z1 := Y.frozen 1
      have z2 := Y.frozen 2
      have z3 := Y.frozen 3
      have z4 := Y.frozen 4
      have HYs := Lib.hid (And.intro hys Y)
      have hC : RM W0 w.heap.size W := ⟨hCa, hCb, ys, hys, Y⟩
      clear hys Y hCa hCb
      go_simp
      exact hK.out undef _ (((((hC.set 0 _).set 1 _).set 2 _).set 3 _).set 4 _) (fun j t n h => memF_store ((((HYs.out.2.set 0 _).set 1 _).set 2 _).set 3 _) 4 _ j t n (memF_store (((HYs.out.2.set 0 _).set 1 _).set 2 _) 3 _ j t n (memF_store ((HYs.out.2.set 0 _).set 1 _) 2 _ j t n (memF_store (HYs.out.2.set 0 _) 1 _ j t n (memF_store HYs.out.2 0 _ j t n h))))) ⟨A, c, C, d, rfl, HYs.out.2.all5 HYs.out.1 _ _ _ _ _⟩
  · intro T W hT hs hC hF
    obtain ⟨t0, t1, t2, t3, t4, t5, t6, t7, t8, t9, t10, t11, t12, t13, t14, t15, t16, t17, t18, t19, rfl⟩ := arr20 T hT
    obtain rfl : t1 = .pointer (some ⟨w.heap.size, 0, none⟩) := hs 1 (by decide)
    obtain rfl : t2 = .pointer (some ⟨w.heap.size + 1, 0, none⟩) := hs 2 (by decide)
    obtain ⟨A, c, C, d, e18, S, Q⟩ := hF 15 (by decide)
    obtain ⟨A', c', C', d', e18', Y⟩ := hF 17 (by decide)
    have e2 : Value.agg #[.slice A 256 c, .slice C 16 d, .int .i64 st] = .agg #[.slice A' 256 c', .slice C' 16 d', .int .i64 st] := (show t18 = _ from e18).symm.trans e18'
    simp only [Value.agg.injEq, Array.mk.injEq, List.cons.injEq, Value.slice.injEq, true_and, and_true] at e2
    obtain ⟨⟨x1, x2⟩, x3, x4⟩ := e2
    subst x1 x2 x3 x4
    have y0 := Y.cell 0 rfl
    have y1 := Y.cell 1 rfl
    have y2 := Y.cell 2 rfl
    have y3 := Y.cell 3 rfl
    have y4 := Y.cell 4 rfl
    have HR : Hid (OwnI W w.heap.size W.heap.size A zs ∧ OwnB W w.heap.size W.heap.size C gs) := Lib.hid ⟨S.wideB (by omega) (Nat.le_refl _), Q.wide (by omega) (Nat.le_refl _)⟩
    have HBw := Lib.hid (HB.out _ hC)
    clear e18 e18' S Q Y hF hs hT hC R0
    go_wp2
    refine bodyPost_ret (v := .agg #[.slice A0 256 c0, .slice A1 32 c1, .slice A 256 c, .slice C 16 d, .int .i64 st]) (by simp [results, Try.results46, go_sem, y0, y1, y2, y3, y4]) rfl ?_
    exact ⟨A, c, C, d, rfl, Lib.hid HR.out.1, Lib.hid HR.out.2, HBw.out⟩
end Go.Proofs.Ytdanefhfngmipaa

/- impl.bus.read, impl.bus.write, impl.Mem.check, impl.BusGet, impl.BusPut, impl.MemOK. -/
namespace Go.Proofs.Ytdanefhfngmipaa
open Go.RowKit

section
variable (lo g b0 b1 b2 b3 : Nat) (A0 A1 : Option Addr) (c0 c1 : Nat) (ram io zs : List Int) (gs : List Bool) (st : Int) (w : World)
set_option maxRecDepth 100000 in
theorem busRead (k : Nat) (hk : k < 4096) (hr : ram.length = 256) (hi : io.length = 32) (hz : zs.length = 256) (hg : gs.length = 16) (hzs : ∀ z ∈ zs, 0 ≤ z ∧ z ≤ 255) (B : BusAt w lo g b0 b1 b2 b3 A0 A1 c0 c1 ram io zs gs st) :
    Calls Try.prog 51 #[.agg #[.pointer (some ⟨b0, 0, none⟩), .pointer (some ⟨b1, 0, none⟩), .pointer (some ⟨b2, 0, none⟩), .pointer (some ⟨b3, 0, none⟩)], .int .i64 k] w fun e w' => e = .returned (.int .i64 (getV ram io zs gs readV st k)) ∧ Below w.heap.size w w' := by
  have hb0 := alloc_below w (.cells #[.pointer (some ⟨b0, 0, none⟩), .pointer (some ⟨b1, 0, none⟩), .pointer (some ⟨b2, 0, none⟩), .pointer (some ⟨b3, 0, none⟩)] 70)
  have HRe := Lib.hid (fun W => regionOf (k : Int) W (by omega) (by omega))
  have HB := Lib.hid B
  have HLs := Lib.hid (And.intro hr (And.intro hi (And.intro hz (And.intro hg hzs))))
  obtain ⟨r, hv⟩ : ∃ r, getV ram io zs gs readV st k = r := ⟨_, rfl⟩
  rw [hv]
  have HV := Lib.hid hv
  clear hr hi hz hg hzs B hv
  rcases reg_ways k hk with ⟨h1, e1, e2⟩ | ⟨h1, h2, e1, e2⟩ | ⟨h1, h2, e1, e2⟩ | ⟨h1, h2, e1, e2⟩
  · rw [e1, e2] at HRe
    have HE : Hid (r = ram.getD k 0) := Lib.hid (by rw [← HV.out]; unfold getV; rw [e1, e2, if_pos rfl]; rfl)
    clear e1 e2 HV
    go_enter Try.func51, Try.ntmps51
    go_wp2_with fail
    refine (HRe.out _).mono ?_
    rintro e w1 ⟨rfl, rfl⟩
    go_wp2_with fail
    refine (busDevice1 _ _ _ _ _).mono ?_
    rintro e w2 ⟨rfl, hb2⟩
    have hb := bt hb0 hb2
    have HM := Lib.hid (workRead b0 k c0 256 A0 ram w2 HLs.out.1 rfl h1 (HB.out.step hb).r (HB.out.step hb).R.reads)
    go_wp2_with fail
    refine HM.out.mono ?_
    rintro e w3 ⟨rfl, rfl⟩
    go_wp2
    go_ret
    exact ⟨ret_int HE.out.symm, hb⟩
  · rw [e1, e2] at HRe
    have HE : Hid (r = io.getD (k - 256) 0) := Lib.hid (by rw [← HV.out]; unfold getV; rw [e1, e2, if_neg (by omega), if_pos rfl]; rfl)
    clear e1 e2 HV
    obtain ⟨j, hj⟩ : ∃ j, k - 256 = j := ⟨_, rfl⟩
    rw [hj] at HRe HE
    have hj32 : j < 32 := by omega
    clear hj
    go_enter Try.func51, Try.ntmps51
    go_wp2_with fail
    refine (HRe.out _).mono ?_
    rintro e w1 ⟨rfl, rfl⟩
    go_wp2_with fail
    refine (busDevice2 _ _ _ _ _).mono ?_
    rintro e w2 ⟨rfl, hb2⟩
    have hb := bt hb0 hb2
    have HM := Lib.hid (regsRead b1 j c1 32 A1 io w2 HLs.out.2.1 rfl hj32 (HB.out.step hb).i (HB.out.step hb).I.reads)
    go_wp2_with fail
    refine HM.out.mono ?_
    rintro e w3 ⟨rfl, rfl⟩
    go_wp2
    go_ret
    exact ⟨ret_int HE.out.symm, hb⟩
  · rw [e1, e2] at HRe
    have HE : Hid (r = readV zs gs st (k - 512)) := Lib.hid (by rw [← HV.out]; unfold getV; rw [e1, e2, if_neg (by omega), if_neg (by omega), if_pos rfl]; rfl)
    clear e1 e2 HV
    obtain ⟨j, hj⟩ : ∃ j, k - 512 = j := ⟨_, rfl⟩
    rw [hj] at HRe HE
    have hj32 : j ≤ 255 := by omega
    clear hj
    go_enter Try.func51, Try.ntmps51
    go_wp2_with fail
    refine (HRe.out _).mono ?_
    rintro e w1 ⟨rfl, rfl⟩
    go_wp2_with fail
    refine (busDevice3 _ _ _ _ _).mono ?_
    rintro e w2 ⟨rfl, hb2⟩
    have hb := bt hb0 hb2
    have HM := Lib.hid (cartRead b2 zs gs st w2 j HLs.out.2.2.1 HLs.out.2.2.2.1 hj32 HLs.out.2.2.2.2 (HB.out.step hb).f)
    go_wp2_with fail
    refine HM.out.mono ?_
    rintro e w3 ⟨rfl, hb3⟩
    go_wp2
    go_ret
    exact ⟨ret_int HE.out.symm, bt hb hb3⟩
  · rw [e1, e2] at HRe
    have HE : Hid (r = 255) := Lib.hid (by rw [← HV.out]; unfold getV; rw [e1, if_neg (by omega), if_neg (by omega), if_neg (by omega)])
    clear e1 e2 HV
    go_enter Try.func51, Try.ntmps51
    go_wp2_with fail
    refine (HRe.out _).mono ?_
    rintro e w1 ⟨rfl, rfl⟩
    go_wp2_with fail
    refine (busDevice0 _ _ _ _ _).mono ?_
    rintro e w2 ⟨rfl, hb2⟩
    have hb := bt hb0 hb2
    go_wp2_with fail
    refine (openRead _ _ _).mono ?_
    rintro e w3 ⟨rfl, rfl⟩
    go_wp2
    go_ret
    exact ⟨ret_int HE.out.symm, hb⟩

theorem Writes.after {lo g b0 b1 b2 b3 : Nat} {A0 A1 : Option Addr} {c0 c1 : Nat} {ram io zs : List Int} {gs : List Bool} {st : Int} {w w1 : World} {e : Ending} {w' : World} (hb : Below w.heap.size w w1) (hl : lo ≤ w.heap.size) (h : Writes lo g b0 b1 b2 b3 A0 A1 c0 c1 ram io zs gs st w1 e w') : Writes lo g b0 b1 b2 b3 A0 A1 c0 c1 ram io zs gs st w e w' :=
  ⟨h.1, h.2.1, Lib.hid (fun b t cs h1 h2 X => h.2.2.1.out b t cs h1 h2 (X.step hb)), (hb.mono hl).trans h.2.2.2⟩
set_option maxRecDepth 100000 in
set_option maxHeartbeats 1000000 in
theorem busWrite (k v : Nat) (hk : k < 4096) (hv : v < 256) (hr : ram.length = 256) (hi : io.length = 32) (hz : zs.length = 256) (hg : gs.length = 16) (hs : 0 ≤ st ∧ st ≤ 8) (hzs : ∀ z ∈ zs, 0 ≤ z ∧ z ≤ 255) (B : BusAt w lo g b0 b1 b2 b3 A0 A1 c0 c1 ram io zs gs st) :
    Calls Try.prog 45 #[.agg #[.pointer (some ⟨b0, 0, none⟩), .pointer (some ⟨b1, 0, none⟩), .pointer (some ⟨b2, 0, none⟩), .pointer (some ⟨b3, 0, none⟩)], .int .i64 k, .int .i64 v] w (Writes lo g b0 b1 b2 b3 A0 A1 c0 c1 (putR ram k v) (putI io k v) (putZ zs gs st k v) (putG gs st k) (putS st k v) w) := by
  have hb0 := alloc_below w (.cells #[.pointer (some ⟨b0, 0, none⟩), .pointer (some ⟨b1, 0, none⟩), .pointer (some ⟨b2, 0, none⟩), .pointer (some ⟨b3, 0, none⟩)] 70)
  have HRe := Lib.hid (fun W => regionOf (k : Int) W (by omega) (by omega))
  have HB := Lib.hid B
  have HQ : Hid (lo ≤ w.heap.size) := Lib.hid (Nat.le_of_lt (Nat.lt_of_le_of_lt B.l.1 B.r.lt))
  have HLs := Lib.hid (And.intro hr (And.intro hi (And.intro hz (And.intro hg (And.intro hs hzs)))))
  clear hr hi hz hg hs hzs B
  rcases reg_ways k hk with ⟨h1, e1, e2⟩ | ⟨h1, h2, e1, e2⟩ | ⟨h1, h2, e1, e2⟩ | ⟨h1, h2, e1, e2⟩
  · rw [show putR ram k v = ram.set k v from by unfold putR; rw [if_pos e1, e2]; rfl, show putI io k v = io from by unfold putI; rw [if_neg (by rw [e1]; omega)], show putZ zs gs st k v = zs from by unfold putZ; rw [if_neg (by rw [e1]; omega)], show putG gs st k = gs from by unfold putG; rw [if_neg (by rw [e1]; omega)], show putS st k v = st from by unfold putS; rw [if_neg (by rw [e1]; omega)]]
    rw [e1, e2] at HRe
    clear e1 e2
    go_enter Try.func45, Try.ntmps45
    go_wp2_with fail
    refine (HRe.out _).mono ?_
    rintro e w1 ⟨rfl, rfl⟩
    go_wp2_with fail
    refine (busDevice1 _ _ _ _ _).mono ?_
    rintro e w2 ⟨rfl, hb2⟩
    have hb := bt hb0 hb2
    have HM := Lib.hid (workWrite lo g b0 b1 b2 b3 A0 A1 c0 c1 ram io zs gs st w2 k v h1 HLs.out.1 (HB.out.step hb))
    go_wp2_with fail
    refine HM.out.mono ?_
    rintro e w3 ⟨rfl, N1, N2, N3⟩
    have HF := Lib.hid (Writes.after hb HQ.out ⟨rfl, N1, N2, N3⟩)
    clear N1 N2 N3
    go_wp2
    go_end0
    exact HF.out
  · obtain ⟨j, hj⟩ : ∃ j, k - 256 = j := ⟨_, rfl⟩
    rw [hj] at e2
    have hj32 : j < 32 := by omega
    by_cases hj0 : 0 < j
    · rw [show putR ram k v = ram from by unfold putR; rw [if_neg (by rw [e1]; omega)], show putI io k v = io.set j v from by unfold putI; rw [if_pos ⟨e1, by rw [e2]; omega⟩, e2]; rfl, show putZ zs gs st k v = zs from by unfold putZ; rw [if_neg (by rw [e1]; omega)], show putG gs st k = gs from by unfold putG; rw [if_neg (by rw [e1]; omega)], show putS st k v = st from by unfold putS; rw [if_neg (by rw [e1]; omega)]]
      rw [e1, e2] at HRe
      clear e1 e2 hj
      go_enter Try.func45, Try.ntmps45
      go_wp2_with fail
      refine (HRe.out _).mono ?_
      rintro e w1 ⟨rfl, rfl⟩
      go_wp2_with fail
      refine (busDevice2 _ _ _ _ _).mono ?_
      rintro e w2 ⟨rfl, hb2⟩
      have hb := bt hb0 hb2
      have HM := Lib.hid (regsWrite lo g b0 b1 b2 b3 A0 A1 c0 c1 ram io zs gs st w2 j v hj32 hj0 HLs.out.2.1 (HB.out.step hb))
      go_wp2_with fail
      refine HM.out.mono ?_
      rintro e w3 ⟨rfl, N1, N2, N3⟩
      have HF := Lib.hid (Writes.after hb HQ.out ⟨rfl, N1, N2, N3⟩)
      clear N1 N2 N3
      go_wp2
      go_end0
      exact HF.out
    · obtain rfl : j = 0 := by omega
      rw [show putR ram k v = ram from by unfold putR; rw [if_neg (by rw [e1]; omega)], show putI io k v = io from by unfold putI; rw [if_neg (by rw [e2]; omega)], show putZ zs gs st k v = zs from by unfold putZ; rw [if_neg (by rw [e1]; omega)], show putG gs st k = gs from by unfold putG; rw [if_neg (by rw [e1]; omega)], show putS st k v = st from by unfold putS; rw [if_neg (by rw [e1]; omega)]]
      rw [e1, e2] at HRe
      clear e1 e2 hj hj0
      go_enter Try.func45, Try.ntmps45
      go_wp2_with fail
      refine (HRe.out _).mono ?_
      rintro e w1 ⟨rfl, rfl⟩
      go_wp2_with fail
      refine (busDevice2 _ _ _ _ _).mono ?_
      rintro e w2 ⟨rfl, hb2⟩
      have hb := bt hb0 hb2
      have HM := Lib.hid (regsWrite0 lo g b0 b1 b2 b3 A0 A1 c0 c1 ram io zs gs st w2 v (HB.out.step hb))
      go_wp2_with fail
      refine HM.out.mono ?_
      rintro e w3 ⟨rfl, N1, N2, N3⟩
      have HF := Lib.hid (Writes.after hb HQ.out ⟨rfl, N1, N2, N3⟩)
      clear N1 N2 N3
      go_wp2
      go_end0
      exact HF.out
  · obtain ⟨j, hj⟩ : ∃ j, k - 512 = j := ⟨_, rfl⟩
    rw [hj] at e2
    have hj32 : j < 256 := by omega
    rw [show putR ram k v = ram from by unfold putR; rw [if_neg (by rw [e1]; omega)], show putI io k v = io from by unfold putI; rw [if_neg (by rw [e1]; omega)], show putZ zs gs st k v = cycZ zs gs st j v from by unfold putZ; rw [if_pos e1, e2]; rfl, show putG gs st k = cycG gs st j from by unfold putG; rw [if_pos e1, e2]; rfl, show putS st k v = nextS st j v from by unfold putS; rw [if_pos e1, e2]]
    rw [e1, e2] at HRe
    clear e1 e2 hj
    go_enter Try.func45, Try.ntmps45
    go_wp2_with fail
    refine (HRe.out _).mono ?_
    rintro e w1 ⟨rfl, rfl⟩
    go_wp2_with fail
    refine (busDevice3 _ _ _ _ _).mono ?_
    rintro e w2 ⟨rfl, hb2⟩
    have hb := bt hb0 hb2
    have HM := Lib.hid (cartWrite lo g b0 b1 b2 b3 A0 A1 c0 c1 ram io zs gs st w2 j v HLs.out.2.2.1 HLs.out.2.2.2.1 HLs.out.2.2.2.2.1 hj32 hv HLs.out.2.2.2.2.2 (HB.out.step hb))
    go_wp2_with fail
    refine HM.out.mono ?_
    rintro e w3 ⟨rfl, N1, N2, N3⟩
    have HF := Lib.hid (Writes.after hb HQ.out ⟨rfl, N1, N2, N3⟩)
    clear N1 N2 N3
    go_wp2
    go_end0
    exact HF.out
  · rw [show putR ram k v = ram from by unfold putR; rw [if_neg (by rw [e1]; omega)], show putI io k v = io from by unfold putI; rw [if_neg (by rw [e1]; omega)], show putZ zs gs st k v = zs from by unfold putZ; rw [if_neg (by rw [e1]; omega)], show putG gs st k = gs from by unfold putG; rw [if_neg (by rw [e1]; omega)], show putS st k v = st from by unfold putS; rw [if_neg (by rw [e1]; omega)]]
    rw [e1, e2] at HRe
    clear e1 e2
    go_enter Try.func45, Try.ntmps45
    go_wp2_with fail
    refine (HRe.out _).mono ?_
    rintro e w1 ⟨rfl, rfl⟩
    go_wp2_with fail
    refine (busDevice0 _ _ _ _ _).mono ?_
    rintro e w2 ⟨rfl, hb2⟩
    have hb := bt hb0 hb2
    go_wp2_with fail
    refine (openWrite _ _ _ _).mono ?_
    rintro e w3 ⟨rfl, rfl⟩
    have HF : Hid (Writes lo g b0 b1 b2 b3 A0 A1 c0 c1 ram io zs gs st w (.returned (.tuple #[])) w2) := Lib.hid ⟨rfl, Lib.hid (HB.out.step hb), Lib.hid (fun _ _ _ _ _ X => X.step hb), hb.mono HQ.out⟩
    go_wp2
    go_end0
    exact HF.out
end
end Go.Proofs.Ytdanefhfngmipaa
