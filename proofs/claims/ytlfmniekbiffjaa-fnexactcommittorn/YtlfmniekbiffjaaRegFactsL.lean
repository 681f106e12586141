/- RegFacts where one operation waits for all others and is not bound to keep the region's condition: a store into what the others read. -/
import Derived.Test.YtlfmniekbiffjaaM5
namespace Go.Proofs.Ytlfmniekbiffjaa
open Go.RowKit

section
variable {P : Program} {ops : Array Oper} {Q : Exit → Act → World → Prop} {sup bef : List (List Nat)} {base : List Nat} {a : Act}
/-- What the last operation owes: the region's end. -/
def LastF (P : Program) (Q : Exit → Act → World → Prop) (sup : List (List Nat)) (base : List Nat) (a : Act) (C : World → Prop) (F : Nat → (Nat → Value) → World → Prop) (n : Nat) (o : Oper) : Prop :=
  ∀ (T : Array Value) (W : World), T.size = a.tmps.size → (∀ s ∈ base, T.getD s undef = a.tmps.getD s undef) → C W → (∀ j, j < n → F j (mask (sup.getD j []) T) W) →
    ∀ K : Act → World → Prop, Shut (∀ v W', Q .normal (Act.put { a with tmps := T } o.dst v) W' → K (Act.put { a with tmps := T } o.dst v) W') → Oper.wp P o { a with tmps := T } W K Q

theorem wpAny_last (n : Nat) (hn : ops.size = n + 1) (hall : ∀ j, j < n → j ∈ bef.getD n []) (hok : regOk ops sup bef base = true) (C : World → Prop) (F : Nat → (Nat → Value) → World → Prop)
    (hstep : StepsF P Q sup bef base a C F 0 (ops.toList.take n))
    (hlast : ∀ o, ops[n]? = some o → LastF P Q sup base a C F n o) :
    ∀ (fuel : Nat) (L : Array Bool) (T : Array Value) (W : World), InvF ops sup bef base a C F L T W → L.getD n false = false → (L.toList.count false ≤ fuel) → wpAny P .any ops Q fuel L { a with tmps := T } W := by
  obtain ⟨hops, hbase⟩ := regOk_spec hok
  have hlow := fun i o ho => (hops i o ho).2.1
  have hnr : ∀ L T W, InvF ops sup bef base a C F L T W → L.getD n false = false → Region.ready .any ops L ≠ [] := fun L T W I hl hr => by
    have := ready_nil_all I.lsz hlow hr n (by omega)
    rw [hl] at this
    cases this
  intro fuel
  induction fuel with
  | zero =>
    intro L T W I hl hf
    exfalso
    have hnl : n < L.size := by rw [I.lsz]; omega
    have : false ∈ L.toList := by
      rw [Array.getD_eq_getD_getElem?, Array.getElem?_eq_getElem hnl] at hl
      simp only [Option.getD_some] at hl
      rw [← hl]
      simp
    have := List.count_pos_iff.2 this
    omega
  | succ fuel ih =>
    intro L T W I hl hf
    refine ⟨fun hr => absurd hr (hnr L T W I hl), fun i hi => ?_⟩
    obtain ⟨h1, o, ho, hall⟩ := mem_ready.1 hi
    have hil : i < L.size := by rw [I.lsz]; exact (Array.getElem?_eq_some_iff.1 ho).1
    have hlf : L.getD i false = false := by
      simp only [Array.getD_eq_getD_getElem?] at h1 ⊢
      rw [Array.getElem?_eq_getElem hil] at h1 ⊢
      simpa using h1
    obtain ⟨hg, hlo, hbf, hsp⟩ := hops i o ho
    have hbef : ∀ j ∈ bef.getD i [], L.getD j false = true := fun j hj => by
      obtain ⟨e, he, hb, q⟩ := hbf j hj
      have he' := hall e he hb
      rcases q with rfl | q
      · exact he'
      · exact I.down e.on he' j q
    have hin : i < n + 1 := by rw [← hn]; exact (Array.getElem?_eq_some_iff.1 ho).1
    have hct0 : (L.toList.set i true).count false + 1 = L.toList.count false := by
      have hx : L.toList[i]'(by simpa using hil) = false := by
        simp only [Array.getD_eq_getD_getElem?] at hlf
        rw [Array.getElem?_eq_getElem hil] at hlf
        simpa using hlf
      rw [List.count_set (by simpa using hil)]
      have hpos : 0 < L.toList.count false := List.count_pos_iff.2 (by rw [← hx]; exact List.getElem_mem _)
      rw [hx]
      simp only [beq_self_eq_true, if_true, show (true == false) = false from rfl, Bool.false_eq_true, if_false]
      omega
    by_cases hil2 : i = n
    · subst hil2
      refine wpOp_step ho (fun K' hK => ?_)
      rw [if_pos (by simp [Region.wanted, hg])]
      have hdone : ∀ j, j < i → L.getD j false = true := fun j hj => hbef j (hall j hj)
      refine hlast o ho T W I.size I.same I.c (fun j hj => I.fact j (hdone j hj)) K' (fun v W' hq => hK _ _ ?_)
      have hall2 : ∀ j, j < ops.size → (L.setIfInBounds i true).getD j false = true := fun j hj => by
        rw [getD_set_bool L i j hil]
        by_cases e : j = i
        · rw [if_pos e]
        · rw [if_neg e]; exact hdone j (by omega)
      have hr : Region.ready .any ops (L.setIfInBounds i true) = [] := by
        apply List.eq_nil_iff_forall_not_mem.2
        intro j hj
        obtain ⟨h1, o', ho', _⟩ := mem_ready.1 hj
        have hjs : j < ops.size := (Array.getElem?_eq_some_iff.1 ho').1
        have := hall2 j hjs
        have hjl : j < (L.setIfInBounds i true).size := by simpa [I.lsz] using hjs
        rw [Array.getD_eq_getD_getElem?, Array.getElem?_eq_getElem hjl] at this h1
        simp only [Option.getD_some] at this h1
        rw [this] at h1
        cases h1
      cases fuel with
      | zero => exact ⟨hr, hq⟩
      | succ f2 => exact ⟨fun _ => hq, fun j hj => by rw [hr] at hj; cases hj⟩
    have hs : StepF P Q sup bef base a C F i o := by
      have := hstep.get i o (by rw [List.getElem?_take, if_pos (by omega)]; simpa using ho)
      simpa using this
    refine wpOp_step ho (fun K' hK => ?_)
    rw [if_pos (by simp [Region.wanted, hg])]
    refine hs T W I.size I.same I.c (fun j hj => I.fact j (hbef j hj)) K' (fun v W' hc hkeep hnew => hK _ _ ?_)
    have hnotin : ∀ k, L.getD k false = true → k ≠ i := fun k hk e => by subst e; rw [hlf] at hk; cases hk
    have hput : (Act.put { a with tmps := T } o.dst v) = { a with tmps := (Act.put { a with tmps := T } o.dst v).tmps } := by
      unfold Act.put; cases o.dst <;> rfl
    have hslot : ∀ s, o.dst ≠ some s → (Act.put { a with tmps := T } o.dst v).tmps.getD s undef = T.getD s undef := fun s hd => by
      cases hdd : o.dst with
      | none => rfl
      | some d => exact getD_set_val T d s v (fun e => hd (by rw [hdd, e]))
    rw [hput]
    refine ih _ _ W' ⟨?_, ?_, hc, by simpa using I.lsz, ?_, ?_⟩ (by rw [getD_set_bool L i n hil, if_neg (fun e => hil2 e.symm)]; exact hl) ?_
    · rw [← I.size]; cases hdd : o.dst <;> simp [Act.put]
    · intro s hsb
      rw [hslot s (hbase s hsb i o ho)]
      exact I.same s hsb
    · intro k hk j hj
      rw [getD_set_bool L i k hil] at hk
      rw [getD_set_bool L i j hil]
      by_cases hki : k = i
      · subst hki
        rw [hbef j hj]; simp
      · rw [if_neg hki] at hk
        rw [I.down k hk j hj]; simp
    · intro k hk
      rw [getD_set_bool L i k hil] at hk
      by_cases hki : k = i
      · subst hki; exact hnew
      · rw [if_neg hki] at hk
        have hF := hkeep k _ hki (I.fact k hk)
        have hmk : mask (sup.getD k []) (Act.put { a with tmps := T } o.dst v).tmps = mask (sup.getD k []) T := by
          funext s
          unfold mask
          by_cases hsup : s ∈ sup.getD k []
          · rw [if_pos (List.contains_iff_mem.2 hsup), if_pos (List.contains_iff_mem.2 hsup)]
            refine hslot s (fun hd => ?_)
            have hko : k < ops.size := by
              rw [← I.lsz]
              apply Classical.byContradiction
              intro hn
              simp only [Array.getD_eq_getD_getElem?] at hk
              rw [Array.getElem?_eq_none (by omega)] at hk
              cases hk
            rcases (hops k _ (Array.getElem?_eq_getElem hko)).2.2.2 s hsup i o ho hd with q | q
            · exact hki q.symm
            · have := I.down k hk i q
              rw [hlf] at this
              cases this
          · rw [if_neg (fun q => hsup (List.contains_iff_mem.1 q)), if_neg (fun q => hsup (List.contains_iff_mem.1 q))]
        rw [hmk]; exact hF
    · have hset : (L.setIfInBounds i true).toList = L.toList.set i true := by simp
      rw [hset]
      have hct : (L.toList.set i true).count false + 1 = L.toList.count false := by
        have hx : L.toList[i]'(by simpa using hil) = false := by
          simp only [Array.getD_eq_getD_getElem?] at hlf
          rw [Array.getElem?_eq_getElem hil] at hlf
          simpa using hlf
        rw [List.count_set (by simpa using hil)]
        have hpos : 0 < L.toList.count false := List.count_pos_iff.2 (by rw [← hx]; exact List.getElem_mem _)
        rw [hx]
        simp only [beq_self_eq_true, if_true, show (true == false) = false from rfl, Bool.false_eq_true, if_false]
        omega
      omega

/-- The law. -/
theorem wp_region_last {id : Nat} {w : World} (hm : P.follows .mixedOrders = true) (n : Nat) (hn : ops.size = n + 1) (sup bef : List (List Nat)) (base : List Nat) (hall : ∀ j, j < n → j ∈ bef.getD n []) (hok : regOk ops sup bef base = true) (C : World → Prop) (F : Nat → (Nat → Value) → World → Prop) (hC : C w.drew)
    (hstep : StepsF P Q sup bef base a C F 0 (ops.toList.take n))
    (hlast : ∀ o, ops[n]? = some o → LastF P Q sup base a C F n o) :
    (Code.region id ops true).wp P Q a w := by
  refine wp_region_any hm ?_
  have := wpAny_last n hn hall hok C F hstep hlast ops.size (Array.replicate ops.size false) a.tmps w.drew ⟨rfl, fun _ _ => rfl, hC, by simp, fun i hi => ?_, fun i hi => ?_⟩ (by rw [Array.getD_eq_getD_getElem?, Array.getElem?_replicate]; split <;> rfl) (by simp)
  · exact this
  all_goals (
    exfalso
    simp only [Array.getD_eq_getD_getElem?] at hi
    rw [Array.getElem?_replicate] at hi
    split at hi <;> simp at hi)
end
end Go.Proofs.Ytlfmniekbiffjaa
