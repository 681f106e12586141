/- Texts of this claim, one behind the other: RegLast, DmaSpec, DmaSpec2, DmaLoop, Proc, CpuSpec2, GenIrq, IrqOk, CpuOk, ProcM, DmaImpl. -/
import Derived.BigQuiet
import Derived.Deep.QuietTactic
import Derived.Deep.RegionHeld3
import Derived.Test.YtagdclbpgkilgaaM5
/- A region that draws its order and whose last operation (a store, as a rule) waits for all others: walked once by facts; behind the last another thing holds of the world than ahead of it. -/
namespace Go.Proofs.Ytagdclbpgkilgaa
open Go.RowKit
section
variable {P : Program} {ops : Array Oper} {Q : Exit → Act → World → Prop} {sup bef : List (List Nat)} {base : List Nat} {a : Act}
/-- Operation z waits for all others. -/
def lastOk (ops : Array Oper) (bef : List (List Nat)) (z : Nat) : Bool := decide (z < ops.size) && (List.range ops.size).all fun i => decide (i = z) || (bef.getD z []).contains i
theorem lastOk_spec {z : Nat} (h : lastOk ops bef z = true) : z < ops.size ∧ ∀ i, i < ops.size → i ≠ z → i ∈ bef.getD z [] := by
  unfold lastOk at h
  rw [Bool.and_eq_true, List.all_eq_true] at h
  refine ⟨by simpa using h.1, fun i hi hne => ?_⟩
  have := h.2 i (List.mem_range.2 hi)
  rw [Bool.or_eq_true] at this
  rcases this with q | q
  · exact (hne (by simpa using q)).elim
  · exact List.contains_iff_mem.1 q
def StepZ (P : Program) (Q : Exit → Act → World → Prop) (sup bef : List (List Nat)) (base : List Nat) (a : Act) (z : Nat) (C0 C1 : World → Prop) (F : Nat → (Nat → Value) → World → Prop) (i : Nat) (o : Oper) : Prop :=
  ∀ (T : Array Value) (W : World), T.size = a.tmps.size → (∀ s ∈ base, T.getD s undef = a.tmps.getD s undef) → C0 W → (∀ j ∈ bef.getD i [], F j (mask (sup.getD j []) T) W) →
    ∀ K : Act → World → Prop, Shut (∀ v W', (if i = z then C1 W' else C0 W') → (∀ j t, j ≠ i → F j t W → F j t W') → F i (mask (sup.getD i []) (Act.put { a with tmps := T } o.dst v).tmps) W' → K (Act.put { a with tmps := T } o.dst v) W') →
      Oper.wp P o { a with tmps := T } W K Q
def StepsZ (P : Program) (Q : Exit → Act → World → Prop) (sup bef : List (List Nat)) (base : List Nat) (a : Act) (z : Nat) (C0 C1 : World → Prop) (F : Nat → (Nat → Value) → World → Prop) : Nat → List Oper → Prop
  | _, [] => True
  | i, o :: l => StepZ P Q sup bef base a z C0 C1 F i o ∧ StepsZ P Q sup bef base a z C0 C1 F (i + 1) l
theorem StepsZ.get {z : Nat} {C0 C1 : World → Prop} {F : Nat → (Nat → Value) → World → Prop} : ∀ {l : List Oper} {i : Nat}, StepsZ P Q sup bef base a z C0 C1 F i l → ∀ j o, l[j]? = some o → StepZ P Q sup bef base a z C0 C1 F (i + j) o
  | [], _, _, j, o, h => by simp at h
  | o' :: l, i, hs, 0, o, h => by simp at h; subst h; exact hs.1
  | o' :: l, i, hs, j + 1, o, h => by
    have := StepsZ.get hs.2 j o (by simpa using h)
    rwa [show i + 1 + j = i + (j + 1) by omega] at this
structure InvZ (ops : Array Oper) (sup bef : List (List Nat)) (base : List Nat) (a : Act) (z : Nat) (C0 C1 : World → Prop) (F : Nat → (Nat → Value) → World → Prop) (L : Array Bool) (T : Array Value) (W : World) : Prop where
  size : T.size = a.tmps.size
  same : ∀ s ∈ base, T.getD s undef = a.tmps.getD s undef
  c0 : L.getD z false = false → C0 W
  c1 : L.getD z false = true → C1 W
  lsz : L.size = ops.size
  down : ∀ i, L.getD i false = true → ∀ j ∈ bef.getD i [], L.getD j false = true
  fact : ∀ i, L.getD i false = true → F i (mask (sup.getD i []) T) W
theorem wpAny_last (hok : regOk ops sup bef base = true) (z : Nat) (hz : ∀ i, i < ops.size → i ≠ z → i ∈ bef.getD z []) (C0 C1 : World → Prop) (F : Nat → (Nat → Value) → World → Prop)
    (hstep : StepsZ P Q sup bef base a z C0 C1 F 0 ops.toList)
    (hend : ∀ T W, T.size = a.tmps.size → (∀ s ∈ base, T.getD s undef = a.tmps.getD s undef) → (if z < ops.size then C1 W else C0 W) → (∀ i, i < ops.size → F i (mask (sup.getD i []) T) W) → Q .normal { a with tmps := T } W) :
    ∀ (fuel : Nat) (L : Array Bool) (T : Array Value) (W : World), InvZ ops sup bef base a z C0 C1 F L T W → (L.toList.count false ≤ fuel) → wpAny P .any ops Q fuel L { a with tmps := T } W := by
  obtain ⟨hops, hbase⟩ := regOk_spec hok
  have hlow := fun i o ho => (hops i o ho).2.1
  have fin : ∀ L T W, InvZ ops sup bef base a z C0 C1 F L T W → Region.ready .any ops L = [] → Q .normal { a with tmps := T } W := fun L T W I hr => hend T W I.size I.same (by
    by_cases q : z < ops.size
    · rw [if_pos q]; exact I.c1 (ready_nil_all I.lsz hlow hr z q)
    · rw [if_neg q]; refine I.c0 ?_; simp only [Array.getD_eq_getD_getElem?]; rw [Array.getElem?_eq_none (by rw [I.lsz]; omega)]; rfl) (fun i hi => I.fact i (ready_nil_all I.lsz hlow hr i hi))
  intro fuel
  induction fuel with
  | zero =>
    intro L T W I hf
    have hr : Region.ready .any ops L = [] := by
      apply List.eq_nil_iff_forall_not_mem.2
      intro j hj
      obtain ⟨h1, o, ho, _⟩ := mem_ready.1 hj
      have hjl : j < L.size := by rw [I.lsz]; exact (Array.getElem?_eq_some_iff.1 ho).1
      have : false ∈ L.toList := by
        simp only [Array.getD_eq_getD_getElem?] at h1
        rw [Array.getElem?_eq_getElem hjl] at h1
        simp only [Option.getD_some] at h1
        rw [← h1]
        simp
      have := List.count_pos_iff.2 this
      omega
    exact ⟨hr, fin L T W I hr⟩
  | succ fuel ih =>
    intro L T W I hf
    refine ⟨fin L T W I, fun i hi => ?_⟩
    obtain ⟨h1, o, ho, hall⟩ := mem_ready.1 hi
    have hil : i < L.size := by rw [I.lsz]; exact (Array.getElem?_eq_some_iff.1 ho).1
    have hlf : L.getD i false = false := by
      simp only [Array.getD_eq_getD_getElem?] at h1 ⊢
      rw [Array.getElem?_eq_getElem hil] at h1 ⊢
      simpa using h1
    obtain ⟨hg, hlo, hbf, hsp⟩ := hops i o ho
    have hbef : ∀ j ∈ bef.getD i [], L.getD j false = true := fun j hj => by
      obtain ⟨e, he, hb, q⟩ := hbf j hj
      have he' := hall e he hb
      rcases q with rfl | q
      · exact he'
      · exact I.down e.on he' j q
    have hz0 : L.getD z false = false := by
      cases hq : L.getD z false with
      | false => rfl
      | true =>
        exfalso
        by_cases e : i = z
        · subst e; rw [hlf] at hq; cases hq
        · have := I.down z hq i (hz i (by rw [← I.lsz]; exact hil) e)
          rw [hlf] at this; cases this
    have hs : StepZ P Q sup bef base a z C0 C1 F i o := by
      have := hstep.get i o (by simpa using ho)
      simpa using this
    refine wpOp_step ho (fun K' hK => ?_)
    rw [if_pos (by simp [Region.wanted, hg])]
    refine hs T W I.size I.same (I.c0 hz0) (fun j hj => I.fact j (hbef j hj)) K' (fun v W' hc hkeep hnew => hK _ _ ?_)
    have hnotin : ∀ k, L.getD k false = true → k ≠ i := fun k hk e => by subst e; rw [hlf] at hk; cases hk
    have hput : (Act.put { a with tmps := T } o.dst v) = { a with tmps := (Act.put { a with tmps := T } o.dst v).tmps } := by
      unfold Act.put; cases o.dst <;> rfl
    have hslot : ∀ s, o.dst ≠ some s → (Act.put { a with tmps := T } o.dst v).tmps.getD s undef = T.getD s undef := fun s hd => by
      cases hdd : o.dst with
      | none => rfl
      | some d => exact getD_set_val T d s v (fun e => hd (by rw [hdd, e]))
    rw [hput]
    refine ih _ _ W' ⟨?_, ?_, fun q => ?_, fun q => ?_, by simpa using I.lsz, ?_, ?_⟩ ?_
    · rw [← I.size]; cases hdd : o.dst <;> simp [Act.put]
    · intro s hsb
      rw [hslot s (hbase s hsb i o ho)]
      exact I.same s hsb
    · rw [getD_set_bool L i z hil] at q
      by_cases e : z = i
      · rw [if_pos e] at q; cases q
      · rw [if_neg (fun h => e h.symm)] at hc; exact hc
    · rw [getD_set_bool L i z hil] at q
      by_cases e : z = i
      · rw [if_pos e.symm] at hc; exact hc
      · rw [if_neg e, hz0] at q; cases q
    · intro k hk j hj
      rw [getD_set_bool L i k hil] at hk
      rw [getD_set_bool L i j hil]
      by_cases hki : k = i
      · subst hki
        rw [hbef j hj]; simp
      · rw [if_neg hki] at hk
        rw [I.down k hk j hj]; simp
    · intro k hk
      rw [getD_set_bool L i k hil] at hk
      by_cases hki : k = i
      · subst hki; exact hnew
      · rw [if_neg hki] at hk
        have hF := hkeep k _ hki (I.fact k hk)
        have hmk : mask (sup.getD k []) (Act.put { a with tmps := T } o.dst v).tmps = mask (sup.getD k []) T := by
          funext s
          unfold mask
          by_cases hsup : s ∈ sup.getD k []
          · rw [if_pos (List.contains_iff_mem.2 hsup), if_pos (List.contains_iff_mem.2 hsup)]
            refine hslot s (fun hd => ?_)
            have hko : k < ops.size := by
              rw [← I.lsz]
              apply Classical.byContradiction
              intro hn
              simp only [Array.getD_eq_getD_getElem?] at hk
              rw [Array.getElem?_eq_none (by omega)] at hk
              cases hk
            rcases (hops k _ (Array.getElem?_eq_getElem hko)).2.2.2 s hsup i o ho hd with q | q
            · exact hki q.symm
            · have := I.down k hk i q
              rw [hlf] at this
              cases this
          · rw [if_neg (fun q => hsup (List.contains_iff_mem.1 q)), if_neg (fun q => hsup (List.contains_iff_mem.1 q))]
        rw [hmk]; exact hF
    · have hset : (L.setIfInBounds i true).toList = L.toList.set i true := by simp
      rw [hset]
      have hct : (L.toList.set i true).count false + 1 = L.toList.count false := by
        have hx : L.toList[i]'(by simpa using hil) = false := by
          simp only [Array.getD_eq_getD_getElem?] at hlf
          rw [Array.getElem?_eq_getElem hil] at hlf
          simpa using hlf
        rw [List.count_set (by simpa using hil)]
        have hpos : 0 < L.toList.count false := List.count_pos_iff.2 (by rw [← hx]; exact List.getElem_mem _)
        rw [hx]
        simp only [beq_self_eq_true, if_true, show (true == false) = false from rfl, Bool.false_eq_true, if_false]
        omega
      omega

/-- The law. -/
theorem wp_region_last {id : Nat} {w : World} (hm : P.follows .mixedOrders = true) (sup bef : List (List Nat)) (base : List Nat) (hok : regOk ops sup bef base = true) (z : Nat) (hz : lastOk ops bef z = true) (C0 C1 : World → Prop) (F : Nat → (Nat → Value) → World → Prop) (hC : C0 w.drew)
    (hstep : StepsZ P Q sup bef base a z C0 C1 F 0 ops.toList)
    (hend : ∀ T W, T.size = a.tmps.size → (∀ s ∈ base, T.getD s undef = a.tmps.getD s undef) → C1 W → (∀ i, i < ops.size → F i (mask (sup.getD i []) T) W) → Q .normal { a with tmps := T } W) :
    (Code.region id ops true).wp P Q a w := by
  refine wp_region_any hm ?_
  have := wpAny_last hok z (lastOk_spec hz).2 C0 C1 F hstep (fun T W h1 h2 h3 h4 => hend T W h1 h2 (by rwa [if_pos (lastOk_spec hz).1] at h3) h4) ops.size (Array.replicate ops.size false) a.tmps w.drew ⟨rfl, fun _ _ => rfl, fun _ => hC, fun q => by simp only [Array.getD_eq_getD_getElem?] at q; rw [Array.getElem?_replicate] at q; split at q <;> simp at q, by simp, fun i hi => ?_, fun i hi => ?_⟩ (by simp)
  · exact this
  all_goals (
    exfalso
    simp only [Array.getD_eq_getD_getElem?] at hi
    rw [Array.getElem?_replicate] at hi
    split at hi <;> simp at hi)
end
end Go.Proofs.Ytagdclbpgkilgaa

/- The model's move of a byte by a channel: l09Move. Written by gen_dmaspec.py. -/
namespace Go.Proofs.Ytagdclbpgkilgaa
open Go.RowKit

/-- Four channels that are read. -/
def RowF (w : World) (A : Option Addr) (rs : List TChannel) : Prop := rs.length = 4 ∧ RowChannel w A rs
theorem RowF.below {w w' : World} {A : Option Addr} {rs : List TChannel} (h : RowF w A rs) (k : Below w.heap.size w w') : RowF w' A rs := ⟨h.1, h.2.below k⟩
theorem RowF.off {w w' : World} {A : Option Addr} {rs : List TChannel} (h : RowF w A rs) {b : Nat} {t : TypeId} {cs : Array Value} (X : Box w b t cs) (hl : cs.size < 16) (hb : Btw b (b + 1) w w') : RowF w' A rs := ⟨h.1, fun i hi j hj => by
  have hlen : (rs.map rowChannel).length = 4 := by rw [List.length_map]; exact h.1
  obtain ⟨b1, off, e, hc⟩ := h.2 i hi j hj
  obtain ⟨b2, off2, e2, hc2⟩ := h.2 (cs.size / 4) (by omega) (cs.size % 4) (by omega)
  have e3 := e.symm.trans e2
  injection e3 with e3
  injection e3 with e4 e5 _
  subst e4 e5
  refine ⟨b1, off, e, hb.cell hc ?_⟩
  show b1 < b ∨ b + 1 ≤ b1
  rcases Nat.lt_trichotomy b1 b with q | q | q
  · exact .inl q
  · exfalso
    subst q
    rw [cell_of_row _ _ _ _ _ _ X, Array.getElem?_eq_none (by omega)] at hc2
    cases hc2
  · exact .inr q⟩
theorem ifn {C0 C1 : Prop} {i z : Nat} (h : i ≠ z) (hC : C0) : if i = z then C1 else C0 := by rw [if_neg h]; exact hC
theorem ifp {C0 C1 : Prop} {z : Nat} (hC : C1) : if z = z then C1 else C0 := by rw [if_pos rfl]; exact hC
def ReadsML (m : MD) (rs : List TChannel) (last : Bool) (w : World) (e : Ending) (w' : World) : Prop :=
  ∃ A0 A1 A2 A3 c0 c1 c2 c3 A c, e = .returned (.tuple #[.agg #[.slice A0 256 c0, .slice A1 32 c1, .slice A2 256 c2, .slice A3 16 c3, .int .i64 m.s], .slice A 4 c, .bool last]) ∧ Hid (RepM w' A0 A1 A2 A3 m) ∧ Hid (RowF w' A rs) ∧ Below w.heap.size w w'
set_option maxRecDepth 100000 in
theorem infoMem5d : (Try.prog.info? 28).map (·.size) = some 5 := by kernel_rfl
theorem btw_row1 (w : World) (b : Nat) (cs : Array Value) : Btw b (b + 1) w (w.setRow b cs) := btw_setRow (Btw.refl _ _ _) (Nat.le_refl _) (Nat.lt_succ_self _) cs
def mvF (bm bc : Nat) (A0 A1 A2 A3 : Option Addr) (c0 c1 c2 c3 : Nat) (m : MD) (x1 x2 v : Int) (m2 : MD) : Nat → (Nat → Value) → World → Prop
  | 0, t, _ => t 19 = .agg #[.slice A0 256 c0, .slice A1 32 c1, .slice A2 256 c2, .slice A3 16 c3, .int .i64 m.s]
  | 1, t, _ => t 20 = .pointer (some ⟨bc, 1, none⟩)
  | 2, t, _ => t 21 = .int .i64 x2
  | 3, t, _ => t 22 = .agg #[.slice A0 256 c0, .slice A1 32 c1, .slice A2 256 c2, .slice A3 16 c3, .int .i64 m.s]
  | 4, t, _ => t 23 = .pointer (some ⟨bc, 0, none⟩)
  | 5, t, _ => t 24 = .int .i64 x1
  | 6, t, _ => t 25 = .int .i64 v
  | 7, t, w => ∃ B0 B1 B2 B3 e0 e1 e2 e3, t 26 = .agg #[.slice B0 256 e0, .slice B1 32 e1, .slice B2 256 e2, .slice B3 16 e3, .int .i64 m2.s] ∧ RepM w B0 B1 B2 B3 m2
  | 8, t, w => ∃ B0 B1 B2 B3 e0 e1 e2 e3, RepM w B0 B1 B2 B3 m2 ∧ Box w bm 28 #[.slice B0 256 e0, .slice B1 32 e1, .slice B2 256 e2, .slice B3 16 e3, .int .i64 m2.s]
  | _, _, _ => True
section
variable {bm bc : Nat} {A0 A1 A2 A3 : Option Addr} {c0 c1 c2 c3 : Nat} {m : MD} {x1 x2 v : Int} {m2 : MD} {w w' : World}
theorem mvF_below (k : Below w.heap.size w w') : ∀ (j : Nat) (t : Nat → Value), mvF bm bc A0 A1 A2 A3 c0 c1 c2 c3 m x1 x2 v m2 j t w → mvF bm bc A0 A1 A2 A3 c0 c1 c2 c3 m x1 x2 v m2 j t w'
  | 0, _, h | 1, _, h | 2, _, h | 3, _, h | 4, _, h | 5, _, h | 6, _, h => h
  | 7, _, ⟨B0, B1, B2, B3, e0, e1, e2, e3, q, N⟩ => ⟨B0, B1, B2, B3, e0, e1, e2, e3, q, N.below k⟩
  | 8, _, ⟨B0, B1, B2, B3, e0, e1, e2, e3, N, X⟩ => ⟨B0, B1, B2, B3, e0, e1, e2, e3, N.below k, X.step k⟩
  | _ + 9, _, _ => trivial
theorem mvF_store {old : Array Value} (X : Box w bm 28 old) (cs : Array Value) (hs : old.size < 16) : ∀ (j : Nat) (t : Nat → Value), j ≠ 8 → mvF bm bc A0 A1 A2 A3 c0 c1 c2 c3 m x1 x2 v m2 j t w → mvF bm bc A0 A1 A2 A3 c0 c1 c2 c3 m x1 x2 v m2 j t (w.setRow bm cs)
  | 0, _, _, h | 1, _, _, h | 2, _, _, h | 3, _, _, h | 4, _, _, h | 5, _, _, h | 6, _, _, h => h
  | 7, _, _, ⟨B0, B1, B2, B3, e0, e1, e2, e3, q, N⟩ => ⟨B0, B1, B2, B3, e0, e1, e2, e3, q, N.off X hs (btw_row1 _ _ _)⟩
  | 8, _, n, _ => (n rfl).elim
  | _ + 9, _, _, _ => trivial
end
theorem arr57 (T : Array Value) (h : T.size = 57) : ∃ t0 t1 t2 t3 t4 t5 t6 t7 t8 t9 t10 t11 t12 t13 t14 t15 t16 t17 t18 t19 t20 t21 t22 t23 t24 t25 t26 t27 t28 t29 t30 t31 t32 t33 t34 t35 t36 t37 t38 t39 t40 t41 t42 t43 t44 t45 t46 t47 t48 t49 t50 t51 t52 t53 t54 t55 t56 : Value, T = #[t0, t1, t2, t3, t4, t5, t6, t7, t8, t9, t10, t11, t12, t13, t14, t15, t16, t17, t18, t19, t20, t21, t22, t23, t24, t25, t26, t27, t28, t29, t30, t31, t32, t33, t34, t35, t36, t37, t38, t39, t40, t41, t42, t43, t44, t45, t46, t47, t48, t49, t50, t51, t52, t53, t54, t55, t56] := by
  obtain ⟨l⟩ := T
  match l, h with
  | t0 :: t1 :: t2 :: t3 :: t4 :: t5 :: t6 :: t7 :: t8 :: t9 :: t10 :: t11 :: t12 :: t13 :: t14 :: t15 :: t16 :: t17 :: t18 :: t19 :: t20 :: t21 :: t22 :: t23 :: t24 :: t25 :: t26 :: t27 :: t28 :: t29 :: t30 :: t31 :: t32 :: t33 :: t34 :: t35 :: t36 :: t37 :: t38 :: t39 :: t40 :: t41 :: t42 :: t43 :: t44 :: t45 :: t46 :: t47 :: t48 :: t49 :: t50 :: t51 :: t52 :: t53 :: t54 :: t55 :: t56 :: [], _ => exact ⟨t0, t1, t2, t3, t4, t5, t6, t7, t8, t9, t10, t11, t12, t13, t14, t15, t16, t17, t18, t19, t20, t21, t22, t23, t24, t25, t26, t27, t28, t29, t30, t31, t32, t33, t34, t35, t36, t37, t38, t39, t40, t41, t42, t43, t44, t45, t46, t47, t48, t49, t50, t51, t52, t53, t54, t55, t56, rfl⟩
set_option maxRecDepth 100000 in
set_option maxHeartbeats 16000000 in
theorem l09Move (A0 A1 A2 A3 : Option Addr) (c0 c1 c2 c3 : Nat) (m : MD) (A : Option Addr) (c : Nat) (rs : List TChannel) (k : Nat) (w : World) (hm : RepM w A0 A1 A2 A3 m) (hl : RowF w A rs) (hk : k < 4) (hc : chB (rs.getD k zChannel) = true) :
    Calls Try.prog 52 #[.agg #[.slice A0 256 c0, .slice A1 32 c1, .slice A2 256 c2, .slice A3 16 c3, .int .i64 m.s], .slice A 4 c, .int .i64 k] w (ReadsML (moveM m (rs.getD k zChannel)) (rs.set k (moveC (rs.getD k zChannel))) (moveL (rs.getD k zChannel)) w) := by
  obtain ⟨b, off, rfl⟩ : ∃ b off, A = some ⟨b, off, none⟩ := by
    obtain ⟨b, off, e, _⟩ := hl.2.at k (by rw [hl.1]; exact hk)
    exact ⟨b, off, e⟩
  obtain ⟨x1, x2, x3, x4, hx⟩ : ∃ x1 x2 x3 x4, rs.getD k zChannel = (x1, x2, x3, x4) := ⟨_, _, _, _, rfl⟩
  have HSet := Lib.hid (set_getD rs k (by rw [hl.1]; exact hk))
  rw [hx] at hc HSet ⊢
  obtain ⟨hr1, hr2, hr3, hr4⟩ := chB_range hc
  simp only at hr1 hr2 hr3 hr4
  have hbx : Below w.heap.size w ((w.alloc (.cells #[.slice A0 256 c0, .slice A1 32 c1, .slice A2 256 c2, .slice A3 16 c3, .int .i64 m.s] 28)).alloc (.cells #[.slice none 0 0, .slice none 0 0, .slice none 0 0, .slice none 0 0, .int .i64 0] 28)) := bt (alloc_below _ _) (alloc_below _ _)
  obtain ⟨b1, off1, eb, g0, g1, g2, g3⟩ := (hl.2.below hbx).at k (by rw [hl.1]; exact hk)
  rw [hx] at g0 g1 g2 g3
  simp only at g0 g1 g2 g3
  injection eb with eb
  injection eb with eb1 eb2 _
  subst eb1 eb2
  have HMO := Lib.hid hm.1
  have hki : (k : Int) < 4 := by omega
  have hk0 : (0 : Int) ≤ (k : Int) := by omega
  clear hbx hx hc
  by_cases hz : x3 = 0
  · subst hz
    obtain ⟨W1, hW1⟩ : ∃ W1, W1 = (((w.alloc (.cells #[.slice A0 256 c0, .slice A1 32 c1, .slice A2 256 c2, .slice A3 16 c3, .int .i64 m.s] 28)).alloc (.cells #[.slice A0 256 c0, .slice A1 32 c1, .slice A2 256 c2, .slice A3 16 c3, .int .i64 m.s] 28)).alloc (.cells #[.int .i64 x1, .int .i64 x2, .int .i64 0, .int .i64 x4] 36)) := ⟨_, rfl⟩
    have hb0 : Below w.heap.size w W1 := by rw [hW1]; exact ((((Below.refl _ _).alloc (Nat.le_refl _) _).alloc (by simp; try omega) _).alloc (by simp; try omega) _)
    have Z2 : Hid (W1.heap.size = w.heap.size + 3) := Lib.hid (by rw [hW1]; simp)
    have X3 : Hid (Box W1 (w.heap.size) 28 #[.slice A0 256 c0, .slice A1 32 c1, .slice A2 256 c2, .slice A3 16 c3, .int .i64 m.s]) := Lib.hid (by rw [hW1]; exact (((Box.new w 28 #[.slice A0 256 c0, .slice A1 32 c1, .slice A2 256 c2, .slice A3 16 c3, .int .i64 m.s]).alloc _).alloc _))
    have X4 : Hid (Box W1 (w.heap.size + 1) 28 #[.slice A0 256 c0, .slice A1 32 c1, .slice A2 256 c2, .slice A3 16 c3, .int .i64 m.s]) := Lib.hid (by rw [hW1]; simpa using ((Box.new (w.alloc (.cells #[.slice A0 256 c0, .slice A1 32 c1, .slice A2 256 c2, .slice A3 16 c3, .int .i64 m.s] 28)) 28 #[.slice A0 256 c0, .slice A1 32 c1, .slice A2 256 c2, .slice A3 16 c3, .int .i64 m.s]).alloc _))
    have X5 : Hid (Box W1 (w.heap.size + 2) 36 #[.int .i64 x1, .int .i64 x2, .int .i64 0, .int .i64 x4]) := Lib.hid (by rw [hW1]; simpa using (Box.new ((w.alloc (.cells #[.slice A0 256 c0, .slice A1 32 c1, .slice A2 256 c2, .slice A3 16 c3, .int .i64 m.s] 28)).alloc (.cells #[.slice A0 256 c0, .slice A1 32 c1, .slice A2 256 c2, .slice A3 16 c3, .int .i64 m.s] 28)) 36 #[.int .i64 x1, .int .i64 x2, .int .i64 0, .int .i64 x4]))
    have F6 : Hid (RepM W1 A0 A1 A2 A3 m) := Lib.hid (hm.below hb0)
    have F7 : Hid (RowF W1 (some ⟨b, off, none⟩) rs) := Lib.hid (hl.below hb0)
    have HW0 := Lib.hid hW1
    clear hW1
    clear hl hm
    have hq : ((0 : Int) == 0) = true := rfl
    have E1 : moveM m (x1, x2, 0, x4) = m := rfl
    have E2 : moveC (x1, x2, 0, x4) = (x1, x2, 0, x4) := rfl
    have E3 : moveL (x1, x2, 0, x4) = false := rfl
    rw [E1, E2, E3, HSet.out]
    clear E1 E2 E3 HSet HMO
    go_enter Try.func52, Try.ntmps52
    go_wp2
    rw [← HW0.out]
    have r1 := X4.out
    have t0 := r1.cell 0 rfl
    have t1 := r1.cell 1 rfl
    have t2 := r1.cell 2 rfl
    have t3 := r1.cell 3 rfl
    have t4 := r1.cell 4 rfl
    refine bodyPost_ret (v := .tuple #[.agg #[.slice A0 256 c0, .slice A1 32 c1, .slice A2 256 c2, .slice A3 16 c3, .int .i64 m.s], .slice (some ⟨b, off, none⟩) 4 c, .bool false]) (by simp [results, Try.results52, go_sem, t0, t1, t2, t3, t4]) rfl ?_
    exact ⟨_, _, _, _, _, _, _, _, _, _, rfl, F6, F7, hb0⟩
  · obtain ⟨W1, hW1⟩ : ∃ W1, W1 = (((w.alloc (.cells #[.slice A0 256 c0, .slice A1 32 c1, .slice A2 256 c2, .slice A3 16 c3, .int .i64 m.s] 28)).alloc (.cells #[.slice none 0 0, .slice none 0 0, .slice none 0 0, .slice none 0 0, .int .i64 0] 28)).alloc (.cells #[.int .i64 x1, .int .i64 x2, .int .i64 x3, .int .i64 x4] 36)) := ⟨_, rfl⟩
    have hb0 : Below w.heap.size w W1 := by rw [hW1]; exact ((((Below.refl _ _).alloc (Nat.le_refl _) _).alloc (by simp; try omega) _).alloc (by simp; try omega) _)
    have Z2 : Hid (W1.heap.size = w.heap.size + 3) := Lib.hid (by rw [hW1]; simp)
    have X3 : Hid (Box W1 (w.heap.size) 28 #[.slice A0 256 c0, .slice A1 32 c1, .slice A2 256 c2, .slice A3 16 c3, .int .i64 m.s]) := Lib.hid (by rw [hW1]; exact (((Box.new w 28 #[.slice A0 256 c0, .slice A1 32 c1, .slice A2 256 c2, .slice A3 16 c3, .int .i64 m.s]).alloc _).alloc _))
    have X4 : Hid (Box W1 (w.heap.size + 1) 28 #[.slice none 0 0, .slice none 0 0, .slice none 0 0, .slice none 0 0, .int .i64 0]) := Lib.hid (by rw [hW1]; simpa using ((Box.new (w.alloc (.cells #[.slice A0 256 c0, .slice A1 32 c1, .slice A2 256 c2, .slice A3 16 c3, .int .i64 m.s] 28)) 28 #[.slice none 0 0, .slice none 0 0, .slice none 0 0, .slice none 0 0, .int .i64 0]).alloc _))
    have X5 : Hid (Box W1 (w.heap.size + 2) 36 #[.int .i64 x1, .int .i64 x2, .int .i64 x3, .int .i64 x4]) := Lib.hid (by rw [hW1]; simpa using (Box.new ((w.alloc (.cells #[.slice A0 256 c0, .slice A1 32 c1, .slice A2 256 c2, .slice A3 16 c3, .int .i64 m.s] 28)).alloc (.cells #[.slice none 0 0, .slice none 0 0, .slice none 0 0, .slice none 0 0, .int .i64 0] 28)) 36 #[.int .i64 x1, .int .i64 x2, .int .i64 x3, .int .i64 x4]))
    have F6 : Hid (RepM W1 A0 A1 A2 A3 m) := Lib.hid (hm.below hb0)
    have F7 : Hid (RowF W1 (some ⟨b, off, none⟩) rs) := Lib.hid (hl.below hb0)
    have HW0 := Lib.hid hW1
    clear hW1
    clear hl hm
    have hq : (x3 == 0) = false := by simpa using hz
    have E1 : moveM m (x1, x2, x3, x4) = m.put x2 (m.get x1) := by unfold moveM; rw [if_neg hz]
    have E2 : moveC (x1, x2, x3, x4) = ((x1 + x4) % 4096, (x2 + x4) % 4096, x3 - 1, x4) := by unfold moveC; rw [if_neg hz]; rfl
    have E3 : moveL (x1, x2, x3, x4) = (x3 - 1 == 0) := by unfold moveL; rw [Bool.eq_iff_iff]; simp; omega
    rw [E1, E2, E3]
    have hgv := MD.Ok.get HMO.out x1 hr1.1 hr1.2
    generalize hv : m.get x1 = v at hgv ⊢
    have HGet := Lib.hid (fun W (q : RepM W A0 A1 A2 A3 m) => l05GetM A0 A1 A2 A3 c0 c1 c2 c3 m W x1 hr1.1 hr1.2 q)
    rw [hv] at HGet
    have HPut := Lib.hid (fun W (q : RepM W A0 A1 A2 A3 m) => l05PutM A0 A1 A2 A3 c0 c1 c2 c3 m W x2 v hr2.1 hr2.2 hgv.1 hgv.2 q)
    unfold ReadsM at HPut
    generalize m.put x2 v = m2 at HPut ⊢
    have m1 : (x1 + x4).tmod 4096 = (x1 + x4) % 4096 := Int.tmod_eq_emod_of_nonneg (by omega)
    have m3 : (x2 + x4).tmod 4096 = (x2 + x4) % 4096 := Int.tmod_eq_emod_of_nonneg (by omega)
    have m5 : IntKind.i64.wrap (x1 + x4) = x1 + x4 := IntWalk.i64_in _ (by omega)
    have m6 : IntKind.i64.wrap (x2 + x4) = x2 + x4 := IntWalk.i64_in _ (by omega)
    have m7 : IntKind.i64.wrap (x3 - 1) = x3 - 1 := IntWalk.i64_in _ (by omega)
    clear E1 E2 E3 HSet HMO hz hv hgv hr1 hr2 hr3 hr4
    go_enter Try.func52, Try.ntmps52
    go_wp2
    rw [← HW0.out]
    clear g0 g1 g2 g3 HW0
    obtain ⟨bm, hbm⟩ : ∃ bm, bm = w.heap.size := ⟨_, rfl⟩
    obtain ⟨bc, hbc⟩ : ∃ bc, bc = w.heap.size + 1 + 1 := ⟨_, rfl⟩
    have HBm := Lib.hid hbm
    have HBc := Lib.hid hbc
    have HX : Hid (∀ W, Below W1.heap.size W1 W → Box W bm 28 #[.slice A0 256 c0, .slice A1 32 c1, .slice A2 256 c2, .slice A3 16 c3, .int .i64 m.s] ∧ Box W bc 36 #[.int .i64 x1, .int .i64 x2, .int .i64 x3, .int .i64 x4] ∧ RepM W A0 A1 A2 A3 m ∧ RowF W (some ⟨b, off, none⟩) rs) := Lib.hid (fun W q => by subst hbm hbc; exact ⟨X3.out.step q, X5.out.step q, F6.out.below q, F7.out.below q⟩)
    have HK : Hid (∀ W, Below W1.heap.size W1 W → W.cell? ⟨bc, 0, none⟩ = some (.int .i64 x1) ∧ W.cell? ⟨bc, 1, none⟩ = some (.int .i64 x2) ∧ W.cell? ⟨bc, 2, none⟩ = some (.int .i64 x3) ∧ W.cell? ⟨bc, 3, none⟩ = some (.int .i64 x4)) := Lib.hid (fun W q => by have X := (HX.out W q).2.1; exact ⟨X.cell 0 rfl, X.cell 1 rfl, X.cell 2 rfl, X.cell 3 rfl⟩)
    rw [← hbc, ← hbm]
    clear hbm hbc
    refine wp_region_last (by kernel_rfl) [[19], [20], [21], [22], [23], [24], [25], [26], []] [[], [], [1], [], [], [4], [3, 4, 5], [0, 1, 2, 3, 4, 5, 6], [0, 1, 2, 3, 4, 5, 6, 7]] [1, 2, 3, 6, 9] (by kernel_rfl) 8 (by kernel_rfl) (fun W => Below W1.heap.size W1 W) (fun W => Btw bm (bm + 1) W1 W) (mvF bm bc A0 A1 A2 A3 c0 c1 c2 c3 m x1 x2 v m2) (Below.refl _ _).drew ?_ ?_
    · refine ⟨?_, ?_, ?_, ?_, ?_, ?_, ?_, ?_, ?_, trivial⟩
      · intro T W hT hs hC hF K hK
        obtain ⟨t0, t1, t2, t3, t4, t5, t6, t7, t8, t9, t10, t11, t12, t13, t14, t15, t16, t17, t18, t19, t20, t21, t22, t23, t24, t25, t26, t27, t28, t29, t30, t31, t32, t33, t34, t35, t36, t37, t38, t39, t40, t41, t42, t43, t44, t45, t46, t47, t48, t49, t50, t51, t52, t53, t54, t55, t56, rfl⟩ := arr57 T hT
        obtain rfl : t3 = .pointer (some ⟨bm, 0, none⟩) := hs 3 (by decide)
        obtain rfl : t9 = .pointer (some ⟨bc, 0, none⟩) := hs 9 (by decide)
        clear hF hs hT
        refine wp_load_row 28 (.tmp 3) rfl bm rfl 28 #[.slice A0 256 c0, .slice A1 32 c1, .slice A2 256 c2, .slice A3 16 c3, .int .i64 m.s] (0, 0) _ (HX.out W hC).1 Try.underlying28 rfl infoMem5d ?_
        exact hK.out _ W (ifn (by decide) hC) (fun _ _ _ h => h) rfl
      · intro T W hT hs hC hF K hK
        obtain ⟨t0, t1, t2, t3, t4, t5, t6, t7, t8, t9, t10, t11, t12, t13, t14, t15, t16, t17, t18, t19, t20, t21, t22, t23, t24, t25, t26, t27, t28, t29, t30, t31, t32, t33, t34, t35, t36, t37, t38, t39, t40, t41, t42, t43, t44, t45, t46, t47, t48, t49, t50, t51, t52, t53, t54, t55, t56, rfl⟩ := arr57 T hT
        obtain rfl : t3 = .pointer (some ⟨bm, 0, none⟩) := hs 3 (by decide)
        obtain rfl : t9 = .pointer (some ⟨bc, 0, none⟩) := hs 9 (by decide)
        clear hF hs hT
        go_simp
        exact hK.out _ W (ifn (by decide) hC) (fun _ _ _ h => h) rfl
      · intro T W hT hs hC hF K hK
        obtain ⟨t0, t1, t2, t3, t4, t5, t6, t7, t8, t9, t10, t11, t12, t13, t14, t15, t16, t17, t18, t19, t20, t21, t22, t23, t24, t25, t26, t27, t28, t29, t30, t31, t32, t33, t34, t35, t36, t37, t38, t39, t40, t41, t42, t43, t44, t45, t46, t47, t48, t49, t50, t51, t52, t53, t54, t55, t56, rfl⟩ := arr57 T hT
        obtain rfl : t3 = .pointer (some ⟨bm, 0, none⟩) := hs 3 (by decide)
        obtain rfl : t9 = .pointer (some ⟨bc, 0, none⟩) := hs 9 (by decide)
        obtain rfl : t20 = .pointer (some ⟨bc, 1, none⟩) := hF 1 (by decide)
        clear hF hs hT
        have hcs := HK.out W hC
        obtain ⟨y0, y1, y2, y3⟩ := hcs
        go_simp
        exact hK.out _ W (ifn (by decide) hC) (fun _ _ _ h => h) rfl
      · intro T W hT hs hC hF K hK
        obtain ⟨t0, t1, t2, t3, t4, t5, t6, t7, t8, t9, t10, t11, t12, t13, t14, t15, t16, t17, t18, t19, t20, t21, t22, t23, t24, t25, t26, t27, t28, t29, t30, t31, t32, t33, t34, t35, t36, t37, t38, t39, t40, t41, t42, t43, t44, t45, t46, t47, t48, t49, t50, t51, t52, t53, t54, t55, t56, rfl⟩ := arr57 T hT
        obtain rfl : t3 = .pointer (some ⟨bm, 0, none⟩) := hs 3 (by decide)
        obtain rfl : t9 = .pointer (some ⟨bc, 0, none⟩) := hs 9 (by decide)
        clear hF hs hT
        refine wp_load_row 28 (.tmp 3) rfl bm rfl 28 #[.slice A0 256 c0, .slice A1 32 c1, .slice A2 256 c2, .slice A3 16 c3, .int .i64 m.s] (0, 0) _ (HX.out W hC).1 Try.underlying28 rfl infoMem5d ?_
        exact hK.out _ W (ifn (by decide) hC) (fun _ _ _ h => h) rfl
      · intro T W hT hs hC hF K hK
        obtain ⟨t0, t1, t2, t3, t4, t5, t6, t7, t8, t9, t10, t11, t12, t13, t14, t15, t16, t17, t18, t19, t20, t21, t22, t23, t24, t25, t26, t27, t28, t29, t30, t31, t32, t33, t34, t35, t36, t37, t38, t39, t40, t41, t42, t43, t44, t45, t46, t47, t48, t49, t50, t51, t52, t53, t54, t55, t56, rfl⟩ := arr57 T hT
        obtain rfl : t3 = .pointer (some ⟨bm, 0, none⟩) := hs 3 (by decide)
        obtain rfl : t9 = .pointer (some ⟨bc, 0, none⟩) := hs 9 (by decide)
        clear hF hs hT
        go_simp
        exact hK.out _ W (ifn (by decide) hC) (fun _ _ _ h => h) rfl
      · intro T W hT hs hC hF K hK
        obtain ⟨t0, t1, t2, t3, t4, t5, t6, t7, t8, t9, t10, t11, t12, t13, t14, t15, t16, t17, t18, t19, t20, t21, t22, t23, t24, t25, t26, t27, t28, t29, t30, t31, t32, t33, t34, t35, t36, t37, t38, t39, t40, t41, t42, t43, t44, t45, t46, t47, t48, t49, t50, t51, t52, t53, t54, t55, t56, rfl⟩ := arr57 T hT
        obtain rfl : t3 = .pointer (some ⟨bm, 0, none⟩) := hs 3 (by decide)
        obtain rfl : t9 = .pointer (some ⟨bc, 0, none⟩) := hs 9 (by decide)
        obtain rfl : t23 = .pointer (some ⟨bc, 0, none⟩) := hF 4 (by decide)
        clear hF hs hT
        have hcs := HK.out W hC
        obtain ⟨y0, y1, y2, y3⟩ := hcs
        go_simp
        exact hK.out _ W (ifn (by decide) hC) (fun _ _ _ h => h) rfl
      · intro T W hT hs hC hF K hK
        obtain ⟨t0, t1, t2, t3, t4, t5, t6, t7, t8, t9, t10, t11, t12, t13, t14, t15, t16, t17, t18, t19, t20, t21, t22, t23, t24, t25, t26, t27, t28, t29, t30, t31, t32, t33, t34, t35, t36, t37, t38, t39, t40, t41, t42, t43, t44, t45, t46, t47, t48, t49, t50, t51, t52, t53, t54, t55, t56, rfl⟩ := arr57 T hT
        obtain rfl : t3 = .pointer (some ⟨bm, 0, none⟩) := hs 3 (by decide)
        obtain rfl : t9 = .pointer (some ⟨bc, 0, none⟩) := hs 9 (by decide)
        obtain rfl : t22 = .agg #[.slice A0 256 c0, .slice A1 32 c1, .slice A2 256 c2, .slice A3 16 c3, .int .i64 m.s] := hF 3 (by decide)
        obtain rfl : t24 = .int .i64 x1 := hF 5 (by decide)
        clear hF hs hT
        have hr := (HX.out W hC).2.2.1
        have HG := Lib.hid (HGet.out W hr)
        clear hr
        go_simp
        refine HG.out.mono ?_
        rintro e w1 ⟨rfl, hc⟩
        exact hK.out _ w1 (ifn (by decide) (hC.trans (hc.mono hC.size))) (fun j t _ h => mvF_below hc j t h) rfl
      · intro T W hT hs hC hF K hK
        obtain ⟨t0, t1, t2, t3, t4, t5, t6, t7, t8, t9, t10, t11, t12, t13, t14, t15, t16, t17, t18, t19, t20, t21, t22, t23, t24, t25, t26, t27, t28, t29, t30, t31, t32, t33, t34, t35, t36, t37, t38, t39, t40, t41, t42, t43, t44, t45, t46, t47, t48, t49, t50, t51, t52, t53, t54, t55, t56, rfl⟩ := arr57 T hT
        obtain rfl : t3 = .pointer (some ⟨bm, 0, none⟩) := hs 3 (by decide)
        obtain rfl : t9 = .pointer (some ⟨bc, 0, none⟩) := hs 9 (by decide)
        obtain rfl : t19 = .agg #[.slice A0 256 c0, .slice A1 32 c1, .slice A2 256 c2, .slice A3 16 c3, .int .i64 m.s] := hF 0 (by decide)
        obtain rfl : t21 = .int .i64 x2 := hF 2 (by decide)
        obtain rfl : t25 = .int .i64 v := hF 6 (by decide)
        clear hF hs hT
        have hr := (HX.out W hC).2.2.1
        have HG := Lib.hid (HPut.out W hr)
        clear hr
        go_simp
        refine HG.out.mono ?_
        rintro e w1 ⟨B0, B1, B2, B3, e0, e1, e2, e3, rfl, N, hc⟩
        exact hK.out _ w1 (ifn (by decide) (hC.trans (hc.mono hC.size))) (fun j t _ h => mvF_below hc j t h) ⟨B0, B1, B2, B3, e0, e1, e2, e3, rfl, N.out⟩
      · intro T W hT hs hC hF K hK
        obtain ⟨t0, t1, t2, t3, t4, t5, t6, t7, t8, t9, t10, t11, t12, t13, t14, t15, t16, t17, t18, t19, t20, t21, t22, t23, t24, t25, t26, t27, t28, t29, t30, t31, t32, t33, t34, t35, t36, t37, t38, t39, t40, t41, t42, t43, t44, t45, t46, t47, t48, t49, t50, t51, t52, t53, t54, t55, t56, rfl⟩ := arr57 T hT
        obtain rfl : t3 = .pointer (some ⟨bm, 0, none⟩) := hs 3 (by decide)
        obtain rfl : t9 = .pointer (some ⟨bc, 0, none⟩) := hs 9 (by decide)
        have f7 := hF 7 (by decide)
        simp only [mvF, mask] at f7
        clear hF hs hT
        obtain ⟨B0, B1, B2, B3, e0, e1, e2, e3, q26, N⟩ := f7
        subst q26
        have X := (HX.out W hC).1
        refine wp_store_row 28 (.tmp 3) (.tmp 26) rfl bm #[.slice B0 256 e0, .slice B1 32 e1, .slice B2 256 e2, .slice B3 16 e3, .int .i64 m2.s] rfl rfl 28 #[.slice A0 256 c0, .slice A1 32 c1, .slice A2 256 c2, .slice A3 16 c3, .int .i64 m.s] X infoMem5d rfl one5 ?_
        exact hK.out _ _ (ifp ((Btw.of_below hC bm (bm + 1)).trans (btw_row1 W bm _))) (fun j t n h => mvF_store X _ (by simp) j t n h) ⟨B0, B1, B2, B3, e0, e1, e2, e3, N.off X (by simp) (btw_row1 W bm _), X.setRow _⟩
    · intro T W hT hs hC hF
      obtain ⟨t0, t1, t2, t3, t4, t5, t6, t7, t8, t9, t10, t11, t12, t13, t14, t15, t16, t17, t18, t19, t20, t21, t22, t23, t24, t25, t26, t27, t28, t29, t30, t31, t32, t33, t34, t35, t36, t37, t38, t39, t40, t41, t42, t43, t44, t45, t46, t47, t48, t49, t50, t51, t52, t53, t54, t55, t56, rfl⟩ := arr57 T hT
      obtain rfl : t3 = .pointer (some ⟨bm, 0, none⟩) := hs 3 (by decide)
      obtain rfl : t9 = .pointer (some ⟨bc, 0, none⟩) := hs 9 (by decide)
      obtain rfl : t1 = .slice (some ⟨b, off, none⟩) 4 c := hs 1 (by decide)
      obtain rfl : t2 = .int .i64 k := hs 2 (by decide)
      obtain rfl : t6 = .pointer (some ⟨bm + 1, 0, none⟩) := hs 6 (by decide)
      obtain ⟨B0, B1, B2, B3, e0, e1, e2, e3, N8, Y8⟩ := hF 8 (by decide)
      have hbm := HBm.out
      have hbc := HBc.out
      subst hbm hbc
      have N := Lib.hid N8
      have Y := Lib.hid Y8
      have HCB := Lib.hid (show Btw (w.heap.size) (w.heap.size + 1) W1 W from hC)
      clear N8 Y8 hF hs hT hC HX HK HGet HPut HBm HBc
      have XC : Hid (Box W (w.heap.size + 1 + 1) 36 #[.int .i64 x1, .int .i64 x2, .int .i64 x3, .int .i64 x4]) := Lib.hid (X5.out.btw HCB.out (by have := Z2.out; omega))
      have XR := Lib.hid (X4.out.btw HCB.out (by have := Z2.out; omega))
      have FL := Lib.hid (F7.out.off X3.out (by simp) HCB.out)
      have hbW := Btw.lowSize HCB.out hb0 (Nat.le_of_lt X3.out.lt) (by have := Z2.out; omega)
      have Z58 : Hid (W1.heap.size ≤ W.heap.size) := Lib.hid HCB.out.size
      clear X5 X4 X3 F7 F6 HCB hb0
      obtain ⟨V2, hV2⟩ : ∃ V2, V2 = ((W.setCell ⟨w.heap.size + 1 + 1, 0, none⟩ (.int .i64 ((x1 + x4) % 4096))).setCell ⟨w.heap.size + 1 + 1, 1, none⟩ (.int .i64 ((x2 + x4) % 4096))).setCell ⟨w.heap.size + 1 + 1, 2, none⟩ (.int .i64 (x3 - 1)) := ⟨_, rfl⟩
      have hB2 : Btw (w.heap.size + 1 + 1) (w.heap.size + 1 + 1 + 1) W V2 := by rw [hV2]; exact (((Btw.refl _ _ _).setCell (p := ⟨w.heap.size + 1 + 1, 0, none⟩) (Nat.le_refl _) (Nat.lt_succ_self _) _).setCell (p := ⟨w.heap.size + 1 + 1, 1, none⟩) (Nat.le_refl _) (Nat.lt_succ_self _) _).setCell (p := ⟨w.heap.size + 1 + 1, 2, none⟩) (Nat.le_refl _) (Nat.lt_succ_self _) _
      have XC2 : Hid (Box V2 (w.heap.size + 1 + 1) 36 #[.int .i64 ((x1 + x4) % 4096), .int .i64 ((x2 + x4) % 4096), .int .i64 (x3 - 1), .int .i64 x4]) := Lib.hid (by rw [hV2]; exact ((XC.out.set 0 _).set 1 _).set 2 _)
      have XR2 := Lib.hid (XR.out.btw hB2 (by have := Z2.out; have := Z58.out; omega))
      have Y2 := Lib.hid (Y.out.btw hB2 (by have := Z2.out; have := Z58.out; omega))
      have N2 := Lib.hid (N.out.off XC.out (by simp) hB2)
      have FL2 := Lib.hid (FL.out.off XC.out (by simp) hB2)
      have hb2 := Btw.lowSize hB2 hbW (Nat.le_of_lt XC.out.lt) (by have := Z2.out; have := Z58.out; omega)
      have Z59 : Hid (W.heap.size ≤ V2.heap.size) := Lib.hid hB2.size
      have hba := alloc_below V2 (.cells #[] 36)
      have hz3 : (V2.alloc (.cells #[] 36)).heap.size = V2.heap.size + 1 := by simp
      have HSrc := Lib.hid ((FL2.out.2.below hba).src (by rw [FL2.out.1]; decide))
      have HL := Lib.hid FL2.out.1
      have HC4 : Hid ((cellsCh rs).length = 4 * 4) := Lib.hid (by rw [cellsCh_len, HL.out])
      have c10 := XC.out.cell 0 rfl
      have d10 := XC.out.frozen 0
      have c11 := XC.out.cell 1 rfl
      have d11 := XC.out.frozen 1
      have c12 := XC.out.cell 2 rfl
      have d12 := XC.out.frozen 2
      have c13 := XC.out.cell 3 rfl
      have d13 := XC.out.frozen 3
      clear XC XR Y N FL hB2 hbW FL2
      have HV2 := Lib.hid hV2
      have HZV : Hid (V2.heap.size = W.heap.size) := Lib.hid (by rw [hV2]; simp [World.setCell])
      rw [hV2] at HSrc
      clear hV2
      go_wp2_with (first | (with_reducible refine wpList_app_fresh rfl (.tmp 45) (.tmp 46) 31 rfl 36 (.agg #[.int .i64 0, .int .i64 0, .int .i64 0, .int .i64 0]) 4 32 Try.underlying31 infoCh rfl (by decide) _ rfl (some ⟨b, off, none⟩) 4 c (by decide) (cellsCh rs) rfl HC4.out HSrc.out (by unfold maxLen; omega) (by omega) ?_))
      intro A1 c4 w4 hb4 O4
      rw [← HV2.out] at hb4
      have hb4 : Below (V2.alloc (.cells #[] 36)).heap.size (V2.alloc (.cells #[] 36)) w4 := by rw [hz3, HZV.out]; exact hb4
      have hb5 := bt hb2 (bt hba hb4)
      have XC4 := Lib.hid ((XC2.out.step hba).step hb4)
      have XR4 := Lib.hid ((XR2.out.step hba).step hb4)
      have Y4 := Lib.hid ((Y2.out.step hba).step hb4)
      have S4 := ownCh_fresh (lo := V2.heap.size) O4.out HL.out (by have := HZV.out; omega)
      have Z60 : Hid (V2.heap.size ≤ w4.heap.size) := Lib.hid (by have := hb4.size; omega)
      obtain ⟨b4, mm4, f4, rfl, ⟨g0, g1, g2, g3⟩, gz, q1, q2, hr, hput⟩ := S4.put k (by rw [HL.out]; exact hk)
      clear XC2 XR2 Y2 hb2 O4 S4 HSrc HC4 c10 d10 c11 d11 c12 d12 c13 d13
      have f00 := XC4.out.cell 0 rfl
      have f10 := XC4.out.cell 1 rfl
      have f20 := XC4.out.cell 2 rfl
      have f30 := XC4.out.cell 3 rfl
      have y00 := Y4.out.cell 0 rfl
      have y10 := Y4.out.cell 1 rfl
      have y20 := Y4.out.cell 2 rfl
      have y30 := Y4.out.cell 3 rfl
      have y40 := Y4.out.cell 4 rfl
      have r00 := XR4.out.cell 0 rfl
      have rz0 := XR4.out.frozen 0
      have r10 := XR4.out.cell 1 rfl
      have rz1 := XR4.out.frozen 1
      have r20 := XR4.out.cell 2 rfl
      have rz2 := XR4.out.frozen 2
      have r30 := XR4.out.cell 3 rfl
      have rz3 := XR4.out.frozen 3
      have r40 := XR4.out.cell 4 rfl
      have rz4 := XR4.out.frozen 4
      have gz0 := gz (k * 4)
      have gz1 := gz (k * 4 + 1)
      have gz2 := gz (k * 4 + 2)
      have gz3 := gz (k * 4 + 3)
      have HP := Lib.hid (hput ((x1 + x4) % 4096, (x2 + x4) % 4096, x3 - 1, x4))
      generalize (rs.getD k zChannel).1 = y1 at g0
      generalize (rs.getD k zChannel).2.1 = y2 at g1
      generalize (rs.getD k zChannel).2.2.1 = y3 at g2
      generalize (rs.getD k zChannel).2.2.2 = y4 at g3
      obtain ⟨w5, hw5⟩ : ∃ w5, w5 = (((w4.setCell ⟨b4, k * 4, none⟩ (.int .i64 ((x1 + x4) % 4096))).setCell ⟨b4, k * 4 + 1, none⟩ (.int .i64 ((x2 + x4) % 4096))).setCell ⟨b4, k * 4 + 2, none⟩ (.int .i64 (x3 - 1))).setCell ⟨b4, k * 4 + 3, none⟩ (.int .i64 x4) := ⟨_, rfl⟩
      have hB5 : Btw b4 (b4 + 1) w4 w5 := by rw [hw5]; exact ((((Btw.refl _ _ _).setCell (p := ⟨b4, k * 4, none⟩) (Nat.le_refl _) (Nat.lt_succ_self _) _).setCell (p := ⟨b4, k * 4 + 1, none⟩) (Nat.le_refl _) (Nat.lt_succ_self _) _).setCell (p := ⟨b4, k * 4 + 2, none⟩) (Nat.le_refl _) (Nat.lt_succ_self _) _).setCell (p := ⟨b4, k * 4 + 3, none⟩) (Nat.le_refl _) (Nat.lt_succ_self _) _
      rw [← hw5] at HP
      have HW5 := Lib.hid hw5
      have XR5 := Lib.hid (XR4.out.btw hB5 (by have := Z2.out; have := Z58.out; have := Z59.out; have := Z60.out; omega))
      have Y5 := Lib.hid (Y4.out.btw hB5 (by have := Z2.out; have := Z58.out; have := Z59.out; have := Z60.out; omega))
      have XC5 := Lib.hid (XC4.out.btw hB5 (by have := Z2.out; have := Z58.out; have := Z59.out; have := Z60.out; omega))
      have hk5 : Below V2.heap.size V2 w5 := (bt hba hb4).trans ((hB5.below (by omega)).mono q1)
      have N5 := Lib.hid (N2.out.below hk5)
      have hb6 := Btw.lowSize hB5 hb5 (by omega) (by have := Z2.out; have := Z58.out; have := Z59.out; have := Z60.out; omega)
      have Z61 : Hid (w4.heap.size ≤ w5.heap.size) := Lib.hid hB5.size
      have hq2 : b4 < w5.heap.size := by have := hB5.size; omega
      clear XR4 Y4 XC4 N2 hk5 hba hb4 hB5 hb5 hput hr gz hw5
      go_wp2
      rw [← HW5.out]
      have u00 := XC5.out.cell 0 rfl
      have u10 := XC5.out.cell 1 rfl
      have u20 := XC5.out.cell 2 rfl
      have u30 := XC5.out.cell 3 rfl
      have v00 := Y5.out.cell 0 rfl
      have v10 := Y5.out.cell 1 rfl
      have v20 := Y5.out.cell 2 rfl
      have v30 := Y5.out.cell 3 rfl
      have v40 := Y5.out.cell 4 rfl
      have s00 := XR5.out.cell 0 rfl
      have sz0 := XR5.out.frozen 0
      have s10 := XR5.out.cell 1 rfl
      have sz1 := XR5.out.frozen 1
      have s20 := XR5.out.cell 2 rfl
      have sz2 := XR5.out.frozen 2
      have s30 := XR5.out.cell 3 rfl
      have sz3 := XR5.out.frozen 3
      have s40 := XR5.out.cell 4 rfl
      have sz4 := XR5.out.frozen 4
      clear f00 f10 f20 f30 y00 r00 rz0 y10 r10 rz1 y20 r20 rz2 y30 r30 rz3 y40 r40 rz4 g0 g1 g2 g3 gz0 gz1 gz2 gz3
      go_region
      clear u00 u10 u20 u30 v00 s00 sz0 v10 s10 sz1 v20 s20 sz2 v30 s30 sz3 v40 s40 sz4
      have FP : Hid (RowF w5 (some ⟨b4, 0, none⟩) (rs.set k ((x1 + x4) % 4096, (x2 + x4) % 4096, x3 - 1, x4))) := Lib.hid ⟨by rw [List.length_set]; exact HL.out, OwnChannel.reads HP.out⟩
      go_wp2
      obtain ⟨W62, hW62⟩ : ∃ W62, W62 = (((((w5.setCell ⟨w.heap.size + 1, 0, none⟩ (.slice B0 256 e0)).setCell ⟨w.heap.size + 1, 1, none⟩ (.slice B1 32 e1)).setCell ⟨w.heap.size + 1, 2, none⟩ (.slice B2 256 e2)).setCell ⟨w.heap.size + 1, 3, none⟩ (.slice B3 16 e3)).setCell ⟨w.heap.size + 1, 4, none⟩ (.int .i64 m2.s)) := ⟨_, rfl⟩
      have hB63 : Btw (w.heap.size + 1) (w.heap.size + 1 + 1) w5 W62 := by rw [hW62]; exact ((((((Btw.refl _ _ _).setCell (p := ⟨w.heap.size + 1, 0, none⟩) (Nat.le_refl _) (Nat.lt_succ_self _) _).setCell (p := ⟨w.heap.size + 1, 1, none⟩) (Nat.le_refl _) (Nat.lt_succ_self _) _).setCell (p := ⟨w.heap.size + 1, 2, none⟩) (Nat.le_refl _) (Nat.lt_succ_self _) _).setCell (p := ⟨w.heap.size + 1, 3, none⟩) (Nat.le_refl _) (Nat.lt_succ_self _) _).setCell (p := ⟨w.heap.size + 1, 4, none⟩) (Nat.le_refl _) (Nat.lt_succ_self _) _)
      have X64 : Hid (Box W62 (w.heap.size + 1) 28 #[.slice B0 256 e0, .slice B1 32 e1, .slice B2 256 e2, .slice B3 16 e3, .int .i64 m2.s]) := Lib.hid (by rw [hW62]; exact (XR5.out.allN5 rfl _ _ _ _ _))
      have F65 := Lib.hid (N5.out.off XR5.out (by simp) hB63)
      have F66 := Lib.hid (FP.out.off XR5.out (by simp) hB63)
      have hb67 := Btw.lowSize hB63 hb6 (Nat.le_of_lt XR5.out.lt) (by have := Z2.out; have := Z58.out; have := Z59.out; have := Z60.out; have := Z61.out; omega)
      have Z68 : Hid (w5.heap.size ≤ W62.heap.size) := Lib.hid hB63.size
      rw [← hW62]
      clear hW62 hB63 XR5 N5 FP hb6
      have hdr : Below W62.heap.size W62 W62.drew := (Below.refl _ _).drew
      have X69 := Lib.hid (X64.out.step hdr)
      have F70 := Lib.hid (F65.out.below hdr)
      have F71 := Lib.hid (F66.out.below hdr)
      have hb72 := bt hb67 hdr
      have Z73 : Hid (W62.heap.size ≤ W62.drew.heap.size) := Lib.hid hdr.size
      clear X64 F65 F66 hb67 hdr
      have r1 := X69.out
      have t00 := r1.cell 0 rfl
      have t10 := r1.cell 1 rfl
      have t20 := r1.cell 2 rfl
      have t30 := r1.cell 3 rfl
      have t40 := r1.cell 4 rfl
      refine bodyPost_ret (v := .tuple #[.agg #[.slice B0 256 e0, .slice B1 32 e1, .slice B2 256 e2, .slice B3 16 e3, .int .i64 m2.s], .slice (some ⟨b4, 0, none⟩) 4 c4, .bool (x3 - 1 == 0)]) (by simp [results, Try.results52, go_sem, t00, t10, t20, t30, t40]) rfl ?_
      exact ⟨B0, B1, B2, B3, e0, e1, e2, e3, some ⟨b4, 0, none⟩, c4, rfl, F70, F71, hb72⟩

end Go.Proofs.Ytagdclbpgkilgaa

/- DmaMove of the model. Written by gen_dmaspec2.py. -/
namespace Go.Proofs.Ytagdclbpgkilgaa
open Go.RowKit

/-- A memory, channels, whether it was the last byte, a code; in memory of the call's own. -/
def GivesMR (m : MD) (rs : List TChannel) (last : Bool) (code : Int) (w : World) (e : Ending) (w' : World) : Prop :=
  ∃ B0 B1 B2 B3 A e0 e1 e2 e3 c, e = .returned (.tuple #[.agg #[.slice B0 m.r.length e0, .slice B1 m.i.length e1, .slice B2 m.z.length e2, .slice B3 m.g.length e3, .int .i64 m.s], .slice A rs.length c, .bool last, .int .i64 code]) ∧
    Hid (OwnA w' w.heap.size w'.heap.size [.slice B0 m.r.length e0, .slice B1 m.i.length e1, .slice B2 m.z.length e2, .slice B3 m.g.length e3, .slice A rs.length c] [.I m.r, .I m.i, .I m.z, .B m.g, rChannel rs]) ∧ Below w.heap.size w w'
theorem ownMR_nil (w : World) (L R : Nat) (A : Option Addr) (c : Nat) (hq : L ≤ R) : OwnA w L R [.slice none 0 0, .slice none 0 0, .slice none 0 0, .slice none 0 0, .slice A 0 c] [.I [], .I [], .I [], .B [], rChannel []] :=
  OwnA.append (lo := L) (hi := L) (lo' := L) (hi' := R) (vs := [.slice none 0 0, .slice none 0 0, .slice none 0 0, .slice none 0 0]) (ds := [.I [], .I [], .I [], .B []]) (ownA4_nil w L L (Nat.le_refl _)) (OwnA.one (own_rChannel.2 ⟨rfl, .inl rfl⟩)) (.inl (Nat.le_refl _)) (Nat.le_refl _) (Nat.le_refl _) hq (Nat.le_refl _)
theorem givesMR_none {m : MD} {rs : List TChannel} {i code : Int} {w w' : World} (A : Option Addr) (c : Nat) (hc : moveCode m rs i = code) (h0 : code ≠ 0) (h : Below w.heap.size w w') :
    GivesMR (dmaM m rs i) (dmaR m rs i) (dmaT m rs i) (moveCode m rs i) w (.returned (.tuple #[.agg #[.slice none 0 0, .slice none 0 0, .slice none 0 0, .slice none 0 0, .int .i64 0], .slice A 0 c, .bool false, .int .i64 code])) w' := by
  have e1 : dmaM m rs i = zM := by unfold dmaM; rw [if_neg (by rw [hc]; exact h0)]
  have e2 : dmaR m rs i = [] := by unfold dmaR; rw [if_neg (by rw [hc]; exact h0)]
  have e3 : dmaT m rs i = false := by unfold dmaT; rw [if_neg (by rw [hc]; exact h0)]
  rw [e1, e2, e3, hc]
  exact ⟨none, none, none, none, A, 0, 0, 0, 0, c, rfl, Lib.hid (ownMR_nil _ _ _ _ _ h.size), h⟩
theorem moveCode_long {m : MD} {rs : List TChannel} {i : Int} (h : 4096 < rs.length) : moveCode m rs i = 2 := by unfold moveCode; rw [if_pos h]
theorem moveCode_bad {m : MD} {rs : List TChannel} {i : Int} (h : ¬ 4096 < rs.length) (h2 : (m.ok && dmaB rs) = false) : moveCode m rs i = 1 := by unfold moveCode; rw [if_neg h, h2]; rfl
theorem moveCode_range {m : MD} {rs : List TChannel} {i : Int} (h : ¬ 4096 < rs.length) (h2 : (m.ok && dmaB rs) = true) (h3 : chanB i = false) : moveCode m rs i = 4 := by unfold moveCode; rw [if_neg h, if_pos h2, h3]; rfl
theorem moveCode_ok {m : MD} {rs : List TChannel} {i : Int} (h : ¬ 4096 < rs.length) (h2 : (m.ok && dmaB rs) = true) (h3 : chanB i = true) : moveCode m rs i = 0 := by unfold moveCode; rw [if_neg h, if_pos h2, h3]; rfl
theorem moveM_ok {m : MD} (h : m.Ok) {c : TChannel} (hc : chB c = true) : (moveM m c).Ok := by
  obtain ⟨h1, h2, _, _⟩ := chB_range hc
  unfold moveM
  split
  · exact h
  · exact h.put h2.1 h2.2 (h.get _ h1.1 h1.2)
set_option maxRecDepth 100000 in
set_option maxHeartbeats 8000000 in
theorem specDmaMove (A0 A1 A2 A3 : Option Addr) (n0 n1 n2 n3 c0 c1 c2 c3 : Nat) (m : MD) (A : Option Addr) (n c : Nat) (rs : List TChannel) (i : Int) (w : World) (l0 : m.r.length = n0) (l1 : m.i.length = n1) (l2 : m.z.length = n2) (l3 : m.g.length = n3) (q0 : n0 ≤ maxLen) (q1 : n1 ≤ maxLen) (q2 : n2 ≤ maxLen) (q3 : n3 ≤ maxLen) (h0 : IntL w A0 m.r) (h1 : IntL w A1 m.i) (h2 : IntL w A2 m.z) (h3 : BoolL w A3 m.g) (hl : rs.length = n) (hn : n ≤ maxLen) (hrow : RowChannel w A rs) :
    Calls Try.prog 17 #[.agg #[.slice A0 n0 c0, .slice A1 n1 c1, .slice A2 n2 c2, .slice A3 n3 c3, .int .i64 m.s], .slice A n c, .int .i64 i] w (GivesMR (dmaM m rs i) (dmaR m rs i) (dmaT m rs i) (moveCode m rs i) w) := by
  have HM := Lib.hid (fun W (hb : Below w.heap.size w W) => specMemOK A0 A1 A2 A3 n0 n1 n2 n3 c0 c1 c2 c3 m.r m.i m.z m.g m.s W l0 l1 l2 l3 q0 q1 q2 q3 (h0.below hb) (h1.below hb) (h2.below hb))
  have HOm : Hid (okMem m.r m.i m.z m.g m.s = m.ok) := Lib.hid rfl
  rw [HOm.out] at HM
  have HD := Lib.hid (fun W (hb : Below w.heap.size w W) => specDmaOK A n c rs W hl hn (hrow.below hb))
  have H := Lib.hid (And.intro (And.intro l0 (And.intro l1 (And.intro l2 l3))) (And.intro h0 (And.intro h1 (And.intro h2 h3))))
  have HL := Lib.hid hl
  have HRow := Lib.hid hrow
  unfold maxLen at hn
  clear l0 l1 l2 l3 q0 q1 q2 q3 h0 h1 h2 h3 HOm hrow
  by_cases hm : 4096 < n
  · obtain ⟨W1, hW1⟩ : ∃ W1, W1 = (((w.alloc (.cells #[.slice A0 n0 c0, .slice A1 n1 c1, .slice A2 n2 c2, .slice A3 n3 c3, .int .i64 m.s] 28)).alloc (.cells #[.slice none 0 0, .slice none 0 0, .slice none 0 0, .slice none 0 0, .int .i64 0] 28)).alloc (.cells #[] 36)) := ⟨_, rfl⟩
    have hb0 : Below w.heap.size w W1 := by rw [hW1]; exact ((((Below.refl _ _).alloc (Nat.le_refl _) _).alloc (by simp; try omega) _).alloc (by simp; try omega) _)
    have Z2 : Hid (W1.heap.size = w.heap.size + 3) := Lib.hid (by rw [hW1]; simp)
    have X3 : Hid (Box W1 (w.heap.size) 28 #[.slice A0 n0 c0, .slice A1 n1 c1, .slice A2 n2 c2, .slice A3 n3 c3, .int .i64 m.s]) := Lib.hid (by rw [hW1]; exact (((Box.new w 28 #[.slice A0 n0 c0, .slice A1 n1 c1, .slice A2 n2 c2, .slice A3 n3 c3, .int .i64 m.s]).alloc _).alloc _))
    have X4 : Hid (Box W1 (w.heap.size + 1) 28 #[.slice none 0 0, .slice none 0 0, .slice none 0 0, .slice none 0 0, .int .i64 0]) := Lib.hid (by rw [hW1]; simpa using ((Box.new (w.alloc (.cells #[.slice A0 n0 c0, .slice A1 n1 c1, .slice A2 n2 c2, .slice A3 n3 c3, .int .i64 m.s] 28)) 28 #[.slice none 0 0, .slice none 0 0, .slice none 0 0, .slice none 0 0, .int .i64 0]).alloc _))
    have X5 : Hid (Box W1 (w.heap.size + 2) 36 #[]) := Lib.hid (by rw [hW1]; simpa using (Box.new ((w.alloc (.cells #[.slice A0 n0 c0, .slice A1 n1 c1, .slice A2 n2 c2, .slice A3 n3 c3, .int .i64 m.s] 28)).alloc (.cells #[.slice none 0 0, .slice none 0 0, .slice none 0 0, .slice none 0 0, .int .i64 0] 28)) 36 #[]))
    have HW0 := Lib.hid hW1
    clear hW1
    have hq : (4096 : Int) < (n : Int) := by omega
    have hc : moveCode m rs i = 2 := moveCode_long (by rw [HL.out]; exact hm)
    go_enter Try.func17, Try.ntmps17
    go_wp2
    rw [← HW0.out]
    have r1 := X4.out
    have t0 := r1.cell 0 rfl
    have t1 := r1.cell 1 rfl
    have t2 := r1.cell 2 rfl
    have t3 := r1.cell 3 rfl
    have t4 := r1.cell 4 rfl
    refine bodyPost_ret (v := .tuple #[.agg #[.slice none 0 0, .slice none 0 0, .slice none 0 0, .slice none 0 0, .int .i64 0], .slice (some ⟨w.heap.size + 1 + 1, 0, none⟩) 0 0, .bool false, .int .i64 2]) (by simp [results, Try.results17, go_sem, t0, t1, t2, t3, t4]) rfl ?_
    exact givesMR_none _ _ (hc) (by decide) hb0
  · have hq : ¬ (4096 : Int) < (n : Int) := by omega
    have hm' : ¬ 4096 < rs.length := by rw [HL.out]; exact hm
    generalize hokm : m.ok = okm at HM
    generalize hokd : dmaB rs = okd at HD
    obtain ⟨W1, hW1⟩ : ∃ W1, W1 = ((w.alloc (.cells #[.slice A0 n0 c0, .slice A1 n1 c1, .slice A2 n2 c2, .slice A3 n3 c3, .int .i64 m.s] 28)).alloc (.cells #[.slice none 0 0, .slice none 0 0, .slice none 0 0, .slice none 0 0, .int .i64 0] 28)) := ⟨_, rfl⟩
    have hb0 : Below w.heap.size w W1 := by rw [hW1]; exact (((Below.refl _ _).alloc (Nat.le_refl _) _).alloc (by simp; try omega) _)
    have Z2 : Hid (W1.heap.size = w.heap.size + 2) := Lib.hid (by rw [hW1]; simp)
    have X3 : Hid (Box W1 (w.heap.size) 28 #[.slice A0 n0 c0, .slice A1 n1 c1, .slice A2 n2 c2, .slice A3 n3 c3, .int .i64 m.s]) := Lib.hid (by rw [hW1]; exact ((Box.new w 28 #[.slice A0 n0 c0, .slice A1 n1 c1, .slice A2 n2 c2, .slice A3 n3 c3, .int .i64 m.s]).alloc _))
    have X4 : Hid (Box W1 (w.heap.size + 1) 28 #[.slice none 0 0, .slice none 0 0, .slice none 0 0, .slice none 0 0, .int .i64 0]) := Lib.hid (by rw [hW1]; simpa using (Box.new (w.alloc (.cells #[.slice A0 n0 c0, .slice A1 n1 c1, .slice A2 n2 c2, .slice A3 n3 c3, .int .i64 m.s] 28)) 28 #[.slice none 0 0, .slice none 0 0, .slice none 0 0, .slice none 0 0, .int .i64 0]))
    have HW0 := Lib.hid hW1
    clear hW1
    have f5 := X3.out.cell 0 rfl
    have f6 := X3.out.cell 1 rfl
    have f7 := X3.out.cell 2 rfl
    have f8 := X3.out.cell 3 rfl
    have f9 := X3.out.cell 4 rfl
    rw [HW0.out] at f5 f6 f7 f8 f9
    go_enter Try.func17, Try.ntmps17
    go_wp2_with fail
    rw [← HW0.out]
    rw [← HW0.out] at f5 f6 f7 f8 f9
    clear f5 f6 f7 f8 f9
    refine (HM.out _ hb0).mono ?_
    rintro e w1 ⟨rfl, hq1⟩
    have X10 := Lib.hid (X3.out.step hq1)
    have X11 := Lib.hid (X4.out.step hq1)
    have hb12 := bt hb0 hq1
    have Z13 : Hid (W1.heap.size ≤ w1.heap.size) := Lib.hid hq1.size
    clear X3 X4 hb0 hq1
    cases okm
    · have hc : moveCode m rs i = 1 := moveCode_bad hm' (by rw [hokm]; rfl)
      have hqV := alloc_below w1 (.cells #[] 36)
      have X14 := Lib.hid (X10.out.step hqV)
      have X15 := Lib.hid (X11.out.step hqV)
      have hb16 := bt hb12 hqV
      have Z17 : Hid (w1.heap.size ≤ (w1.alloc (.cells #[] 36)).heap.size) := Lib.hid hqV.size
      clear X10 X11 hb12 hqV
      have f18 := X15.out.cell 0 rfl
      have f19 := X15.out.cell 1 rfl
      have f20 := X15.out.cell 2 rfl
      have f21 := X15.out.cell 3 rfl
      have f22 := X15.out.cell 4 rfl
      have z23 := X15.out.frozen 0
      have z24 := X15.out.frozen 1
      have z25 := X15.out.frozen 2
      have z26 := X15.out.frozen 3
      have z27 := X15.out.frozen 4
      go_wp2
      obtain ⟨W28, hW28⟩ : ∃ W28, W28 = ((((((w1.alloc (.cells #[] 36)).setCell ⟨w.heap.size + 1, 0, none⟩ (.slice none 0 0)).setCell ⟨w.heap.size + 1, 1, none⟩ (.slice none 0 0)).setCell ⟨w.heap.size + 1, 2, none⟩ (.slice none 0 0)).setCell ⟨w.heap.size + 1, 3, none⟩ (.slice none 0 0)).setCell ⟨w.heap.size + 1, 4, none⟩ (.int .i64 0)) := ⟨_, rfl⟩
      have hB29 : Btw (w.heap.size + 1) (w.heap.size + 1 + 1) (w1.alloc (.cells #[] 36)) W28 := by rw [hW28]; exact ((((((Btw.refl _ _ _).setCell (p := ⟨w.heap.size + 1, 0, none⟩) (Nat.le_refl _) (Nat.lt_succ_self _) _).setCell (p := ⟨w.heap.size + 1, 1, none⟩) (Nat.le_refl _) (Nat.lt_succ_self _) _).setCell (p := ⟨w.heap.size + 1, 2, none⟩) (Nat.le_refl _) (Nat.lt_succ_self _) _).setCell (p := ⟨w.heap.size + 1, 3, none⟩) (Nat.le_refl _) (Nat.lt_succ_self _) _).setCell (p := ⟨w.heap.size + 1, 4, none⟩) (Nat.le_refl _) (Nat.lt_succ_self _) _)
      have X30 : Hid (Box W28 (w.heap.size + 1) 28 #[.slice none 0 0, .slice none 0 0, .slice none 0 0, .slice none 0 0, .int .i64 0]) := Lib.hid (by rw [hW28]; exact (X15.out.allN5 rfl _ _ _ _ _))
      have X31 := Lib.hid (X14.out.btw hB29 (by have := Z2.out; have := Z13.out; have := Z17.out; omega))
      have hb32 := Btw.lowSize hB29 hb16 (Nat.le_of_lt X15.out.lt) (by have := Z2.out; have := Z13.out; have := Z17.out; omega)
      have Z33 : Hid ((w1.alloc (.cells #[] 36)).heap.size ≤ W28.heap.size) := Lib.hid hB29.size
      rw [← hW28]
      clear hW28 hB29 X15 X14 hb16
      have r1 := X30.out
      have t0 := r1.cell 0 rfl
      have t1 := r1.cell 1 rfl
      have t2 := r1.cell 2 rfl
      have t3 := r1.cell 3 rfl
      have t4 := r1.cell 4 rfl
      refine bodyPost_ret (v := .tuple #[.agg #[.slice none 0 0, .slice none 0 0, .slice none 0 0, .slice none 0 0, .int .i64 0], .slice (some ⟨w1.heap.size, 0, none⟩) 0 0, .bool false, .int .i64 1]) (by simp [results, Try.results17, go_sem, t0, t1, t2, t3, t4]) rfl ?_
      exact givesMR_none _ _ (hc) (by decide) hb32
    · go_wp2_with fail
      refine (HD.out _ hb12).mono ?_
      rintro e w2 ⟨rfl, hq2⟩
      have X14 := Lib.hid (X10.out.step hq2)
      have X15 := Lib.hid (X11.out.step hq2)
      have hb16 := bt hb12 hq2
      have Z17 : Hid (w1.heap.size ≤ w2.heap.size) := Lib.hid hq2.size
      clear X10 X11 hb12 hq2
      cases okd
      · have hc : moveCode m rs i = 1 := moveCode_bad hm' (by rw [hokm, hokd]; rfl)
        have hqV := alloc_below w2 (.cells #[] 36)
        have X18 := Lib.hid (X14.out.step hqV)
        have X19 := Lib.hid (X15.out.step hqV)
        have hb20 := bt hb16 hqV
        have Z21 : Hid (w2.heap.size ≤ (w2.alloc (.cells #[] 36)).heap.size) := Lib.hid hqV.size
        clear X14 X15 hb16 hqV
        have f22 := X19.out.cell 0 rfl
        have f23 := X19.out.cell 1 rfl
        have f24 := X19.out.cell 2 rfl
        have f25 := X19.out.cell 3 rfl
        have f26 := X19.out.cell 4 rfl
        have z27 := X19.out.frozen 0
        have z28 := X19.out.frozen 1
        have z29 := X19.out.frozen 2
        have z30 := X19.out.frozen 3
        have z31 := X19.out.frozen 4
        go_wp2
        obtain ⟨W32, hW32⟩ : ∃ W32, W32 = ((((((w2.alloc (.cells #[] 36)).setCell ⟨w.heap.size + 1, 0, none⟩ (.slice none 0 0)).setCell ⟨w.heap.size + 1, 1, none⟩ (.slice none 0 0)).setCell ⟨w.heap.size + 1, 2, none⟩ (.slice none 0 0)).setCell ⟨w.heap.size + 1, 3, none⟩ (.slice none 0 0)).setCell ⟨w.heap.size + 1, 4, none⟩ (.int .i64 0)) := ⟨_, rfl⟩
        have hB33 : Btw (w.heap.size + 1) (w.heap.size + 1 + 1) (w2.alloc (.cells #[] 36)) W32 := by rw [hW32]; exact ((((((Btw.refl _ _ _).setCell (p := ⟨w.heap.size + 1, 0, none⟩) (Nat.le_refl _) (Nat.lt_succ_self _) _).setCell (p := ⟨w.heap.size + 1, 1, none⟩) (Nat.le_refl _) (Nat.lt_succ_self _) _).setCell (p := ⟨w.heap.size + 1, 2, none⟩) (Nat.le_refl _) (Nat.lt_succ_self _) _).setCell (p := ⟨w.heap.size + 1, 3, none⟩) (Nat.le_refl _) (Nat.lt_succ_self _) _).setCell (p := ⟨w.heap.size + 1, 4, none⟩) (Nat.le_refl _) (Nat.lt_succ_self _) _)
        have X34 : Hid (Box W32 (w.heap.size + 1) 28 #[.slice none 0 0, .slice none 0 0, .slice none 0 0, .slice none 0 0, .int .i64 0]) := Lib.hid (by rw [hW32]; exact (X19.out.allN5 rfl _ _ _ _ _))
        have X35 := Lib.hid (X18.out.btw hB33 (by have := Z2.out; have := Z13.out; have := Z17.out; have := Z21.out; omega))
        have hb36 := Btw.lowSize hB33 hb20 (Nat.le_of_lt X19.out.lt) (by have := Z2.out; have := Z13.out; have := Z17.out; have := Z21.out; omega)
        have Z37 : Hid ((w2.alloc (.cells #[] 36)).heap.size ≤ W32.heap.size) := Lib.hid hB33.size
        rw [← hW32]
        clear hW32 hB33 X19 X18 hb20
        have r1 := X34.out
        have t0 := r1.cell 0 rfl
        have t1 := r1.cell 1 rfl
        have t2 := r1.cell 2 rfl
        have t3 := r1.cell 3 rfl
        have t4 := r1.cell 4 rfl
        refine bodyPost_ret (v := .tuple #[.agg #[.slice none 0 0, .slice none 0 0, .slice none 0 0, .slice none 0 0, .int .i64 0], .slice (some ⟨w2.heap.size, 0, none⟩) 0 0, .bool false, .int .i64 1]) (by simp [results, Try.results17, go_sem, t0, t1, t2, t3, t4]) rfl ?_
        exact givesMR_none _ _ (hc) (by decide) hb36
      · have hok : (m.ok && dmaB rs) = true := by rw [hokm, hokd]; rfl
        cases h2 : chanB i
        · have k2 : decide (0 ≤ i ∧ i ≤ 3) = false := h2
          have hc : moveCode m rs i = 4 := moveCode_range hm' hok h2
          have hqV := alloc_below w2 (.cells #[] 36)
          have X18 := Lib.hid (X14.out.step hqV)
          have X19 := Lib.hid (X15.out.step hqV)
          have hb20 := bt hb16 hqV
          have Z21 : Hid (w2.heap.size ≤ (w2.alloc (.cells #[] 36)).heap.size) := Lib.hid hqV.size
          clear X14 X15 hb16 hqV
          have f22 := X19.out.cell 0 rfl
          have f23 := X19.out.cell 1 rfl
          have f24 := X19.out.cell 2 rfl
          have f25 := X19.out.cell 3 rfl
          have f26 := X19.out.cell 4 rfl
          have z27 := X19.out.frozen 0
          have z28 := X19.out.frozen 1
          have z29 := X19.out.frozen 2
          have z30 := X19.out.frozen 3
          have z31 := X19.out.frozen 4
          go_wp2_with (first | (go_at_call 51; refine (l01InN _ _ _ _).mono ?_; rintro e w' ⟨rfl, rfl⟩; rw [k2]))
          obtain ⟨W32, hW32⟩ : ∃ W32, W32 = ((((((w2.alloc (.cells #[] 36)).setCell ⟨w.heap.size + 1, 0, none⟩ (.slice none 0 0)).setCell ⟨w.heap.size + 1, 1, none⟩ (.slice none 0 0)).setCell ⟨w.heap.size + 1, 2, none⟩ (.slice none 0 0)).setCell ⟨w.heap.size + 1, 3, none⟩ (.slice none 0 0)).setCell ⟨w.heap.size + 1, 4, none⟩ (.int .i64 0)) := ⟨_, rfl⟩
          have hB33 : Btw (w.heap.size + 1) (w.heap.size + 1 + 1) (w2.alloc (.cells #[] 36)) W32 := by rw [hW32]; exact ((((((Btw.refl _ _ _).setCell (p := ⟨w.heap.size + 1, 0, none⟩) (Nat.le_refl _) (Nat.lt_succ_self _) _).setCell (p := ⟨w.heap.size + 1, 1, none⟩) (Nat.le_refl _) (Nat.lt_succ_self _) _).setCell (p := ⟨w.heap.size + 1, 2, none⟩) (Nat.le_refl _) (Nat.lt_succ_self _) _).setCell (p := ⟨w.heap.size + 1, 3, none⟩) (Nat.le_refl _) (Nat.lt_succ_self _) _).setCell (p := ⟨w.heap.size + 1, 4, none⟩) (Nat.le_refl _) (Nat.lt_succ_self _) _)
          have X34 : Hid (Box W32 (w.heap.size + 1) 28 #[.slice none 0 0, .slice none 0 0, .slice none 0 0, .slice none 0 0, .int .i64 0]) := Lib.hid (by rw [hW32]; exact (X19.out.allN5 rfl _ _ _ _ _))
          have X35 := Lib.hid (X18.out.btw hB33 (by have := Z2.out; have := Z13.out; have := Z17.out; have := Z21.out; omega))
          have hb36 := Btw.lowSize hB33 hb20 (Nat.le_of_lt X19.out.lt) (by have := Z2.out; have := Z13.out; have := Z17.out; have := Z21.out; omega)
          have Z37 : Hid ((w2.alloc (.cells #[] 36)).heap.size ≤ W32.heap.size) := Lib.hid hB33.size
          rw [← hW32]
          clear hW32 hB33 X19 X18 hb20
          have r1 := X34.out
          have t0 := r1.cell 0 rfl
          have t1 := r1.cell 1 rfl
          have t2 := r1.cell 2 rfl
          have t3 := r1.cell 3 rfl
          have t4 := r1.cell 4 rfl
          refine bodyPost_ret (v := .tuple #[.agg #[.slice none 0 0, .slice none 0 0, .slice none 0 0, .slice none 0 0, .int .i64 0], .slice (some ⟨w2.heap.size, 0, none⟩) 0 0, .bool false, .int .i64 4]) (by simp [results, Try.results17, go_sem, t0, t1, t2, t3, t4]) rfl ?_
          exact givesMR_none _ _ (hc) (by decide) hb36
        · have k2 : decide (0 ≤ i ∧ i ≤ 3) = true := h2
          have hc : moveCode m rs i = 0 := moveCode_ok hm' hok h2
          have hom : m.Ok := MD.ok_iff.1 hokm
          have hl4 : rs.length = 4 := (dmaB_len hokd).1
          obtain rfl : n = 4 := HL.out.symm.trans hl4
          obtain rfl : n0 = 256 := H.out.1.1.symm.trans hom.r
          obtain rfl : n1 = 32 := H.out.1.2.1.symm.trans hom.i
          obtain rfl : n2 = 256 := H.out.1.2.2.1.symm.trans hom.z
          obtain rfl : n3 = 16 := H.out.1.2.2.2.symm.trans hom.g
          obtain ⟨k, rfl⟩ : ∃ k : Nat, i = k := ⟨i.toNat, by have := chanB_range h2; omega⟩
          have hk : k < 4 := by have := chanB_range h2; omega
          have hch := dmaB_at hokd k hk
          have ED : dmaM m rs k = moveM m (rs.getD k zChannel) := by unfold dmaM; rw [if_pos hc]; rfl
          have ER : dmaR m rs k = rs.set k (moveC (rs.getD k zChannel)) := by unfold dmaR; rw [if_pos hc]; rfl
          have ET : dmaT m rs k = moveL (rs.getD k zChannel) := by unfold dmaT; rw [if_pos hc]; rfl
          have HE := Lib.hid (And.intro ED (And.intro ER (And.intro ET hc)))
          have HMv := Lib.hid (l09Move A0 A1 A2 A3 c0 c1 c2 c3 m A c rs k w2 ⟨hom, H.out.2.1.below hb16, H.out.2.2.1.below hb16, H.out.2.2.2.1.below hb16, H.out.2.2.2.2.below hb16⟩ ⟨hl4, HRow.out.below hb16⟩ hk hch)
          unfold ReadsML at HMv
          have HLm := Lib.hid (moveM_ok hom hch)
          have hlr : (rs.set k (moveC (rs.getD k zChannel))).length = 4 := by rw [List.length_set]; exact hl4
          generalize moveM m (rs.getD k zChannel) = mF at HMv HLm HE
          generalize rs.set k (moveC (rs.getD k zChannel)) = rF at HMv hlr HE
          generalize moveL (rs.getD k zChannel) = lF at HMv HE
          have HLr := Lib.hid hlr
          clear ED ER ET hc hom hl4 hch hlr H HRow HL HM HD hok hokm hokd hm hm' h2
          have f18 := X14.out.cell 0 rfl
          have f19 := X14.out.cell 1 rfl
          have f20 := X14.out.cell 2 rfl
          have f21 := X14.out.cell 3 rfl
          have f22 := X14.out.cell 4 rfl
          go_wp2_with (first | (go_at_call 51; refine (l01InN _ _ _ _).mono ?_; rintro e w' ⟨rfl, rfl⟩; rw [k2]))
          clear f18 f19 f20 f21 f22
          refine HMv.out.mono ?_
          rintro e w3 ⟨D0, D1, D2, D3, g0, g1, g2, g3, E, c5, rfl, NM, NR, hq3⟩
          have X23 := Lib.hid (X14.out.step hq3)
          have X24 := Lib.hid (X15.out.step hq3)
          have hb25 := bt hb16 hq3
          have Z26 : Hid (w2.heap.size ≤ w3.heap.size) := Lib.hid hq3.size
          clear X14 X15 hb16 hq3
          have hqV := alloc_below w3 (.cells #[.slice D0 256 g0, .slice D1 32 g1, .slice D2 256 g2, .slice D3 16 g3, .int .i64 mF.s] 28)
          have X27 := Lib.hid (X23.out.step hqV)
          have X28 := Lib.hid (X24.out.step hqV)
          have F29 := Lib.hid (NM.out.below hqV)
          have F30 := Lib.hid (NR.out.below hqV)
          have hb31 := bt hb25 hqV
          have Z32 : Hid (w3.heap.size ≤ (w3.alloc (.cells #[.slice D0 256 g0, .slice D1 32 g1, .slice D2 256 g2, .slice D3 16 g3, .int .i64 mF.s] 28)).heap.size) := Lib.hid hqV.size
          clear X23 X24 NM NR hb25 hqV
          have HO := Lib.hid (l05Own D0 D1 D2 D3 g0 g1 g2 g3 mF.r mF.i mF.z mF.g mF.s (w3.alloc (.cells #[.slice D0 256 g0, .slice D1 32 g1, .slice D2 256 g2, .slice D3 16 g3, .int .i64 mF.s] 28)) HLm.out.r HLm.out.i HLm.out.z HLm.out.g F29.out.2.1 F29.out.2.2.1 F29.out.2.2.2.1 F29.out.2.2.2.2)
          unfold GivesMem at HO
          go_wp2_with fail
          refine HO.out.mono ?_
          rintro e w4 ⟨B0, B1, B2, B3, e0, e1, e2, e3, rfl, O4, hq4⟩
          have hq4s := Lib.hid hq4.size
          clear F29 HO HMv
          have X33 := Lib.hid (X27.out.step hq4)
          have X34 := Lib.hid (X28.out.step hq4)
          have F35 := Lib.hid (F30.out.below hq4)
          have hb36 := bt hb31 hq4
          have Z37 : Hid ((w3.alloc (.cells #[.slice D0 256 g0, .slice D1 32 g1, .slice D2 256 g2, .slice D3 16 g3, .int .i64 mF.s] 28)).heap.size ≤ w4.heap.size) := Lib.hid hq4.size
          clear X27 X28 F30 hb31 hq4
          have hba := alloc_below w4 (.cells #[] 36)
          have hz4 : (w4.alloc (.cells #[] 36)).heap.size = w4.heap.size + 1 := by simp
          have HSrc := Lib.hid ((F35.out.2.below hba).src (by rw [HLr.out]; decide))
          have HC4 : Hid ((cellsCh rF).length = 4 * 4) := Lib.hid (by rw [cellsCh_len, HLr.out])
          have f38 := X34.out.cell 0 rfl
          have f39 := X34.out.cell 1 rfl
          have f40 := X34.out.cell 2 rfl
          have f41 := X34.out.cell 3 rfl
          have f42 := X34.out.cell 4 rfl
          have z43 := X34.out.frozen 0
          have z44 := X34.out.frozen 1
          have z45 := X34.out.frozen 2
          have z46 := X34.out.frozen 3
          have z47 := X34.out.frozen 4
          clear f38 f39 f40 f41 f42 z43 z44 z45 z46 z47
          go_wp2_with (first | (with_reducible refine wpList_app_fresh rfl (.tmp 43) (.tmp 44) 31 rfl 36 (.agg #[.int .i64 0, .int .i64 0, .int .i64 0, .int .i64 0]) 4 32 Try.underlying31 infoCh rfl (by decide) _ rfl E 4 c5 (by decide) (cellsCh rF) rfl HC4.out HSrc.out (by unfold maxLen; omega) (by omega) ?_))
          intro A6 c6 w6 hb6 O6
          have hq6 : Below w4.heap.size w4 w6 := bt hba (by rw [hz4]; exact hb6)
          have S6 := ownCh_fresh (lo := w4.heap.size) O6.out HLr.out (by omega)
          have OB := Lib.hid (OwnA.append (O4.out.below hq6) (OwnA.one (v := .slice A6 4 c6) (d := rChannel rF) (own_rChannel.2 ⟨HLr.out, S6⟩)) (.inl (Nat.le_refl _)) (L := (w3.alloc (.cells #[.slice D0 256 g0, .slice D1 32 g1, .slice D2 256 g2, .slice D3 16 g3, .int .i64 mF.s] 28)).heap.size) (R := w6.heap.size) (Nat.le_refl _) hq4s.out hq6.size (Nat.le_refl _))
          clear O4 S6 O6 HSrc HC4 hba hz4 hb6
          have X48 := Lib.hid (X33.out.step hq6)
          have X49 := Lib.hid (X34.out.step hq6)
          have F50 := Lib.hid (F35.out.below hq6)
          have hb51 := bt hb36 hq6
          have Z52 : Hid (w4.heap.size ≤ w6.heap.size) := Lib.hid hq6.size
          clear X33 X34 F35 hb36 hq6
          have f53 := X49.out.cell 0 rfl
          have f54 := X49.out.cell 1 rfl
          have f55 := X49.out.cell 2 rfl
          have f56 := X49.out.cell 3 rfl
          have f57 := X49.out.cell 4 rfl
          have z58 := X49.out.frozen 0
          have z59 := X49.out.frozen 1
          have z60 := X49.out.frozen 2
          have z61 := X49.out.frozen 3
          have z62 := X49.out.frozen 4
          go_wp2
          clear f53 f54 f55 f56 f57 z58 z59 z60 z61 z62
          obtain ⟨V, hV⟩ : ∃ V, V = (((((w6.setCell ⟨w.heap.size + 1, 0, none⟩ (.slice B0 256 e0)).setCell ⟨w.heap.size + 1, 1, none⟩ (.slice B1 32 e1)).setCell ⟨w.heap.size + 1, 2, none⟩ (.slice B2 256 e2)).setCell ⟨w.heap.size + 1, 3, none⟩ (.slice B3 16 e3)).setCell ⟨w.heap.size + 1, 4, none⟩ (.int .i64 mF.s)) := ⟨_, rfl⟩
          have hBV : Btw (w.heap.size + 1) (w.heap.size + 1 + 1) w6 V := by rw [hV]; exact ((((((Btw.refl _ _ _).setCell (p := ⟨w.heap.size + 1, 0, none⟩) (Nat.le_refl _) (Nat.lt_succ_self _) _).setCell (p := ⟨w.heap.size + 1, 1, none⟩) (Nat.le_refl _) (Nat.lt_succ_self _) _).setCell (p := ⟨w.heap.size + 1, 2, none⟩) (Nat.le_refl _) (Nat.lt_succ_self _) _).setCell (p := ⟨w.heap.size + 1, 3, none⟩) (Nat.le_refl _) (Nat.lt_succ_self _) _).setCell (p := ⟨w.heap.size + 1, 4, none⟩) (Nat.le_refl _) (Nat.lt_succ_self _) _)
          have r1 : Box V (w.heap.size + 1) 28 #[.slice B0 256 e0, .slice B1 32 e1, .slice B2 256 e2, .slice B3 16 e3, .int .i64 mF.s] := by rw [hV]; exact X49.out.allN5 rfl _ _ _ _ _
          rw [← hV]
          clear hV
          have t0 := r1.cell 0 rfl
          have t1 := r1.cell 1 rfl
          have t2 := r1.cell 2 rfl
          have t3 := r1.cell 3 rfl
          have t4 := r1.cell 4 rfl
          refine bodyPost_ret (v := .tuple #[.agg #[.slice B0 256 e0, .slice B1 32 e1, .slice B2 256 e2, .slice B3 16 e3, .int .i64 mF.s], .slice A6 4 c6, .bool lF, .int .i64 0]) (by simp [results, Try.results17, go_sem, t0, t1, t2, t3, t4]) rfl ?_
          have hfin := Btw.lowSize hBV hb51 (Nat.le_of_lt X49.out.lt) (by have := Z2.out; have := Z13.out; have := Z17.out; have := Z26.out; have := Z32.out; have := Z37.out; have := Z52.out; omega)
          rw [HE.out.1, HE.out.2.1, HE.out.2.2.1, HE.out.2.2.2]
          refine ⟨B0, B1, B2, B3, A6, e0, e1, e2, e3, c6, ?_, Lib.hid ?_, hfin⟩
          · rw [HLm.out.r, HLm.out.i, HLm.out.z, HLm.out.g, HLr.out]
          · rw [HLm.out.r, HLm.out.i, HLm.out.z, HLm.out.g, HLr.out]
            exact (OB.out.btw hBV (.inr (by have := Z2.out; have := Z13.out; have := Z17.out; have := Z26.out; have := Z32.out; have := Z37.out; have := Z52.out; omega))).wide (by have := Z2.out; have := Z13.out; have := Z17.out; have := Z26.out; have := Z32.out; have := Z37.out; have := Z52.out; omega) hBV.size
end Go.Proofs.Ytagdclbpgkilgaa

/- A transfer of n bytes by a channel, round by round, as data. Nothing here walks. -/
namespace Go.Proofs.Ytagdclbpgkilgaa
open Go.RowKit

/-- The channel behind k rounds of a transfer of n bytes. -/
def chanN (f t n k : Nat) : TChannel := (((f + min k n : Nat) : Int), ((t + min k n : Nat) : Int), ((n - min k n : Nat) : Int), 1)
def fourN (c : TChannel) : List TChannel := [zChannel, zChannel, c, zChannel]
/-- The first bytes behind k rounds. -/
def copyN (r : List Int) (f t : Nat) : Nat → List Int
  | 0 => r
  | k + 1 => (copyN r f t k).set (t + k) ((copyN r f t k).getD (f + k) 0)
def memN (m : MD) (f t n k : Nat) : MD := ⟨copyN m.r f t (min k n), m.i, m.z, m.g, m.s⟩

theorem copyN_len (r : List Int) (f t k : Nat) : (copyN r f t k).length = r.length := by
  induction k with
  | zero => rfl
  | succ k h => show ((copyN r f t k).set _ _).length = _; rw [List.length_set, h]
theorem copyN_low (r : List Int) (f t a : Nat) (ha : a < t) (k : Nat) : (copyN r f t k).getD a 0 = r.getD a 0 := by
  induction k with
  | zero => rfl
  | succ k h =>
    show ((copyN r f t k).set (t + k) _).getD a 0 = _
    rw [List.getD_eq_getElem?_getD, List.getElem?_set_ne (by omega), ← List.getD_eq_getElem?_getD, h]
theorem copyN_at (r : List Int) (f t j : Nat) (k : Nat) (hf : f + k ≤ t) (ht : t + k ≤ r.length) (hj : j < k) : (copyN r f t k).getD (t + j) 0 = r.getD (f + j) 0 := by
  induction k with
  | zero => omega
  | succ k h =>
    show ((copyN r f t k).set (t + k) _).getD (t + j) 0 = _
    by_cases e : j = k
    · subst e
      rw [List.getD_eq_getElem?_getD, List.getElem?_set_self (by rw [copyN_len]; omega), Option.getD_some]
      exact copyN_low r f t _ (by omega) _
    · rw [List.getD_eq_getElem?_getD, List.getElem?_set_ne (by omega), ← List.getD_eq_getElem?_getD]
      exact h (by omega) (by omega) (by omega)
theorem reg_low (k : Nat) (hk : k < 256) : regR k = 1 ∧ regK k = k := by
  rcases reg_ways k (by omega) with ⟨_, h1, h2⟩ | ⟨h, _⟩ | ⟨h, _⟩ | ⟨h, _⟩
  · exact ⟨h1, h2⟩
  all_goals omega
theorem get_low (m : MD) (k : Nat) (hk : k < 256) : m.get k = m.r.getD k 0 := by
  obtain ⟨h1, h2⟩ := reg_low k hk
  unfold MD.get getV
  rw [if_pos h1, h2]
  rfl
theorem put_low (m : MD) (k : Nat) (v : Int) (hk : k < 256) : m.put k v = ⟨m.r.set k v, m.i, m.z, m.g, m.s⟩ := by
  obtain ⟨h1, h2⟩ := reg_low k hk
  unfold MD.put putR putI putZ putG putS
  rw [if_pos h1, if_neg (by rw [h1]; omega), if_neg (by rw [h1]; omega), if_neg (by rw [h1]; omega), if_neg (by rw [h1]; omega), h2]
  rfl
theorem chanN_done {f t n k : Nat} (h : n ≤ k) : chanN f t n (k + 1) = chanN f t n k := by unfold chanN; rw [Nat.min_eq_right h, Nat.min_eq_right (by omega : n ≤ k + 1)]
theorem chanN_ok {f t n : Nat} (k : Nat) (hf : f + n ≤ 4095) (ht : t + n ≤ 4095) (hn : n ≤ 255) : chB (chanN f t n k) = true := by
  unfold chanN chB adC byC upB
  simp only [Bool.and_eq_true, decide_eq_true_eq]
  omega
theorem chanN_move {f t n : Nat} (k : Nat) (hf : f + n ≤ 4095) (ht : t + n ≤ 4095) : moveC (chanN f t n k) = chanN f t n (k + 1) := by
  by_cases h : n ≤ k
  · rw [chanN_done h]
    unfold moveC
    rw [if_pos]
    show ((n - min k n : Nat) : Int) = 0
    omega
  · unfold moveC
    rw [if_neg (by show ¬ ((n - min k n : Nat) : Int) = 0; omega)]
    unfold moved chanN
    have e1 : (((f + min k n : Nat) : Int) + 1) % 4096 = ((f + min (k + 1) n : Nat) : Int) := by omega
    have e2 : (((t + min k n : Nat) : Int) + 1) % 4096 = ((t + min (k + 1) n : Nat) : Int) := by omega
    have e3 : ((n - min k n : Nat) : Int) - 1 = ((n - min (k + 1) n : Nat) : Int) := by omega
    show ((((f + min k n : Nat) : Int) + 1) % 4096, (((t + min k n : Nat) : Int) + 1) % 4096, ((n - min k n : Nat) : Int) - 1, (1 : Int)) = _
    rw [e1, e2, e3]
theorem chanN_last {f t n : Nat} (k : Nat) : moveL (chanN f t n k) = decide ((k : Int) = (n : Int) - 1) := by
  unfold moveL chanN
  simp only [decide_eq_decide]
  omega
theorem memN_ok {m : MD} (h : m.Ok) {f t n : Nat} (_hf : f + n ≤ t) (_ht : t + n ≤ 256) (k : Nat) : (memN m f t n k).Ok := by
  have hb : ∀ j, ∀ z ∈ copyN m.r f t j, 0 ≤ z ∧ z ≤ 255 := by
    intro j
    induction j with
    | zero => exact h.rb
    | succ j q =>
      show ∀ z ∈ (copyN m.r f t j).set _ _, _
      by_cases e : f + j < 256
      · exact set_byte q _ (getD_byte (n := 256) q _ (by rw [copyN_len, h.r]) e)
      · refine set_byte q _ ?_
        rw [List.getD_eq_getElem?_getD, List.getElem?_eq_none (by rw [copyN_len, h.r]; omega)]
        exact ⟨Int.le_refl _, by decide⟩
  exact ⟨by show (copyN m.r f t (min k n)).length = 256; rw [copyN_len, h.r], h.i, h.z, h.g, h.s, hb _, h.ib, h.zb⟩
theorem memN_move {m : MD} {f t n : Nat} (_hf : f + n ≤ t) (_ht : t + n ≤ 256) (k : Nat) : moveM (memN m f t n k) (chanN f t n k) = memN m f t n (k + 1) := by
  by_cases h : n ≤ k
  · have e : memN m f t n (k + 1) = memN m f t n k := by unfold memN; rw [Nat.min_eq_right h, Nat.min_eq_right (by omega : n ≤ k + 1)]
    rw [e]
    unfold moveM
    rw [if_pos]
    show ((n - min k n : Nat) : Int) = 0
    omega
  · unfold moveM
    rw [if_neg (by show ¬ ((n - min k n : Nat) : Int) = 0; omega)]
    show MD.put _ ((t + min k n : Nat) : Int) (MD.get _ ((f + min k n : Nat) : Int)) = _
    rw [get_low _ _ (by omega), put_low _ _ _ (by omega)]
    unfold memN
    rw [Nat.min_eq_left (by omega : k ≤ n), Nat.min_eq_left (by omega : k + 1 ≤ n)]
    rfl
/-- What the two transfers' sums ask: the bytes at the target are those of the source. -/
theorem memN_at {m : MD} (h : m.Ok) {f t n : Nat} (hf : f + n ≤ t) (ht : t + n ≤ 256) {k j : Nat} (hk : n ≤ k) (hj : j < n) : (memN m f t n k).r.getD (t + j) 0 = m.r.getD (f + j) 0 := by
  show (copyN m.r f t (min k n)).getD (t + j) 0 = _
  exact copyN_at m.r f t j _ (by omega) (by rw [h.r]; omega) (by omega)
theorem fourN_ok {c : TChannel} (h : chB c = true) : dmaB (fourN c) = true := by
  have z : chB zChannel = true := by decide
  rw [dmaB_yes (rs := fourN c) rfl]
  unfold fourN
  simp only [List.all_cons, List.all_nil, z, h, Bool.and_self]
/-- A round. -/
theorem round_code {m : MD} (h : m.Ok) {f t n : Nat} (hf : f + n ≤ t) (ht : t + n ≤ 256) (hn : n ≤ 255) (k : Nat) : moveCode (memN m f t n k) (fourN (chanN f t n k)) 2 = 0 := by
  refine moveCode_ok (by show ¬ 4096 < 4; omega) ?_ (by decide)
  rw [Bool.and_eq_true]
  exact ⟨MD.ok_iff.2 (memN_ok h hf ht k), fourN_ok (chanN_ok k (by omega) (by omega) hn)⟩
theorem round_is {m : MD} (h : m.Ok) {f t n : Nat} (hf : f + n ≤ t) (ht : t + n ≤ 256) (hn : n ≤ 255) (k : Nat) :
    dmaM (memN m f t n k) (fourN (chanN f t n k)) 2 = memN m f t n (k + 1) ∧ dmaR (memN m f t n k) (fourN (chanN f t n k)) 2 = fourN (chanN f t n (k + 1)) ∧ dmaT (memN m f t n k) (fourN (chanN f t n k)) 2 = decide ((k : Int) = (n : Int) - 1) := by
  have hc := round_code h hf ht hn k
  have g : (fourN (chanN f t n k)).getD ((2 : Int).toNat) zChannel = chanN f t n k := rfl
  refine ⟨?_, ?_, ?_⟩
  · unfold dmaM; rw [if_pos hc, g]; exact memN_move hf ht k
  · unfold dmaR; rw [if_pos hc, g, chanN_move k (by omega) (by omega)]; rfl
  · unfold dmaT; rw [if_pos hc, g]; exact chanN_last k
theorem start_is {f t n : Nat} (hf : f + n ≤ 4095) (ht : t + n ≤ 4095) (hn : n ≤ 255) : setCode newRs 2 ((f : Int), (t : Int), (n : Int), 1) = 0 ∧ setRs newRs 2 ((f : Int), (t : Int), (n : Int), 1) = fourN (chanN f t n 0) := by
  have c0 : ((f : Int), (t : Int), (n : Int), (1 : Int)) = chanN f t n 0 := by unfold chanN; simp
  have hc : setCode newRs 2 (chanN f t n 0) = 0 := by
    unfold setCode
    rw [if_neg (by decide), if_pos (by decide), if_pos]
    rw [chanN_ok 0 hf ht hn]
    rfl
  rw [c0]
  refine ⟨hc, ?_⟩
  unfold setRs
  rw [if_pos hc]
  rfl
theorem start_mem (m : MD) (f t n : Nat) : memN m f t n 0 = m := by unfold memN; rw [Nat.zero_min]; rfl
end Go.Proofs.Ytagdclbpgkilgaa

/- The processor that executes: a box with the fields, the bus and the swi; what its methods leave. -/
namespace Go.Proofs.Ytagdclbpgkilgaa
open Go.RowKit

/-- Where the parts of a processor lie. -/
structure PA where
  L : Nat
  R : Nat
  p : Nat
  g : Nat
  b0 : Nat
  b1 : Nat
  b2 : Nat
  b3 : Nat
  A : Option Addr
  A0 : Option Addr
  A1 : Option Addr
  c : Nat
  c0 : Nat
  c1 : Nat
def procC (a : PA) (d : CD) (s : Int) : Array Value := #[.int .i64 d.pc, .int .i64 d.sp, .int .i64 d.bank, .int .i64 d.level, .bool d.zero, .bool d.carry, .bool d.on, .bool d.halt, .slice a.A 16 a.c, .pointer (some ⟨a.b0, 0, none⟩), .pointer (some ⟨a.b1, 0, none⟩), .pointer (some ⟨a.b2, 0, none⟩), .pointer (some ⟨a.b3, 0, none⟩), .int .i64 s]
theorem BusAt.setFar {w : World} {lo g b0 b1 b2 b3 : Nat} {A0 A1 : Option Addr} {c0 c1 : Nat} {ram io zs : List Int} {gs : List Bool} {st : Int} (B : BusAt w lo g b0 b1 b2 b3 A0 A1 c0 c1 ram io zs gs st) {b : Nat} {t : TypeId} {cs : Array Value} (X : Box w b t cs) (ht : t ≠ 3) (h0 : t ≠ 103) (h1 : t ≠ 104) (h2 : t ≠ 111) (h3 : t ≠ 113) (i : Nat) (u : Value) : BusAt (w.setCell ⟨b, i, none⟩ u) lo g b0 b1 b2 b3 A0 A1 c0 c1 ram io zs gs st :=
  ⟨B.r.far (p := ⟨b, i, none⟩) (B.r.box_ne X (Ne.symm h0)) u, B.i.far (p := ⟨b, i, none⟩) (B.i.box_ne X (Ne.symm h1)) u, B.f.far (p := ⟨b, i, none⟩) (B.f.box_ne X (Ne.symm h2)) u, B.o.far (p := ⟨b, i, none⟩) (B.o.box_ne X (Ne.symm h3)) u, B.R.farB X ht i u, (B.I.farB X ht i u).wideB (Nat.le_refl _) (by simp [World.setCell]), by simpa [World.setCell] using B.l⟩
end Go.Proofs.Ytagdclbpgkilgaa

/- The model's processor: flags, an interrupt, its own registers. Written by gen_cpuspec2.py. -/
namespace Go.Proofs.Ytagdclbpgkilgaa
open Go.RowKit

theorem bitI_range (b : Bool) : 0 ≤ bitI b ∧ bitI b ≤ 1 := by cases b <;> decide
set_option maxRecDepth 100000 in
theorem l01BitI (q : Bool) (w : World) : Calls Try.prog 103 #[.bool q] w fun e w' => e = .returned (.int .i64 (bitI q)) ∧ w = w' := l01Bit q w

theorem arr34 (T : Array Value) (h : T.size = 34) : ∃ t0 t1 t2 t3 t4 t5 t6 t7 t8 t9 t10 t11 t12 t13 t14 t15 t16 t17 t18 t19 t20 t21 t22 t23 t24 t25 t26 t27 t28 t29 t30 t31 t32 t33 : Value, T = #[t0, t1, t2, t3, t4, t5, t6, t7, t8, t9, t10, t11, t12, t13, t14, t15, t16, t17, t18, t19, t20, t21, t22, t23, t24, t25, t26, t27, t28, t29, t30, t31, t32, t33] := by
  obtain ⟨l⟩ := T
  match l, h with
  | t0 :: t1 :: t2 :: t3 :: t4 :: t5 :: t6 :: t7 :: t8 :: t9 :: t10 :: t11 :: t12 :: t13 :: t14 :: t15 :: t16 :: t17 :: t18 :: t19 :: t20 :: t21 :: t22 :: t23 :: t24 :: t25 :: t26 :: t27 :: t28 :: t29 :: t30 :: t31 :: t32 :: t33 :: [], _ => exact ⟨t0, t1, t2, t3, t4, t5, t6, t7, t8, t9, t10, t11, t12, t13, t14, t15, t16, t17, t18, t19, t20, t21, t22, t23, t24, t25, t26, t27, t28, t29, t30, t31, t32, t33, rfl⟩

def GivesC (d : CD) (w : World) (e : Ending) (w' : World) : Prop :=
  ∃ A c, e = .returned (.agg #[.int .i64 d.pc, .int .i64 d.sp, .int .i64 d.bank, .int .i64 d.level, .bool d.zero, .bool d.carry, .bool d.on, .bool d.halt, .slice A 16 c]) ∧ Hid (OwnI w' w.heap.size w'.heap.size A d.regs) ∧ Below w.heap.size w w'

end Go.Proofs.Ytagdclbpgkilgaa

/- The laws' own functions over Irq, on leaves. Written by gen_t.py. -/
namespace Go.Proofs.Ytagdclbpgkilgaa
open Go.RowKit

end Go.Proofs.Ytagdclbpgkilgaa

/- An interrupt controller's validity: levels, lines, IrqOK on both sides, the checks of a line. -/
namespace Go.Proofs.Ytagdclbpgkilgaa
open Go.RowKit

/-- From 0 to 7: a level, or a line. -/
def lvB (n : Int) : Bool := decide (0 ≤ n ∧ n ≤ 7)
def okIrq (d0 : List Int) (d1 : List Bool) : Bool := decide (d0.length = 8) && (decide (d1.length = 8) && d0.all lvB)
theorem lvB_range {n : Int} (h : lvB n = true) : 0 ≤ n ∧ n ≤ 7 := by simpa [lvB] using h
theorem okIrq_no1 (d0 : List Int) (d1 : List Bool) (h : d0.length ≠ 8) : okIrq d0 d1 = false := by unfold okIrq; simp [h]
theorem okIrq_no2 (d0 : List Int) (d1 : List Bool) (h : d1.length ≠ 8) : okIrq d0 d1 = false := by unfold okIrq; simp [h]
theorem okIrq_yes (d0 : List Int) (d1 : List Bool) (h : d0.length = 8) (h2 : d1.length = 8) : okIrq d0 d1 = d0.all lvB := by unfold okIrq; simp [h, h2]
theorem okIrq_len {d0 : List Int} {d1 : List Bool} (h : okIrq d0 d1 = true) : d0.length = 8 ∧ d1.length = 8 ∧ ∀ z ∈ d0, 0 ≤ z ∧ z ≤ 7 := by
  unfold okIrq at h
  simp only [Bool.and_eq_true, decide_eq_true_eq, List.all_eq_true] at h
  exact ⟨h.1, h.2.1, fun z hz => lvB_range (h.2.2 z hz)⟩
/-- What a check of a line answers. -/
def lineC (d0 : List Int) (d1 : List Bool) (n : Int) : Int := if okIrq d0 d1 then (if lvB n then 0 else 4) else 1

set_option maxRecDepth 100000 in
theorem l01In7 (n : Int) (w : World) : Calls Try.prog 51 #[.int .i64 n, .int .i64 0, .int .i64 7] w fun e w' => e = .returned (.bool (lvB n)) ∧ w = w' := by
  go_enter Try.func51, Try.ntmps51
  go_wp2
  all_goals go_ret
  all_goals (refine ⟨ret_bool ?_, rfl⟩)
  all_goals (unfold lvB; rw [Bool.eq_iff_iff]; simp; try omega)

section
variable (A0 A1 : Option Addr) (n0 n1 c0 c1 : Nat) (d0 : List Int) (d1 : List Bool) (w : World)
end
end Go.Proofs.Ytagdclbpgkilgaa

/- CpuOK, RegAt, NewCpu, SameCpu on both sides, on leaves. Written by gen_cpuok.py. -/
namespace Go.Proofs.Ytagdclbpgkilgaa
open Go.RowKit

def okCpu (d0 d1 d2 d3 : Int) (d8 : List Int) : Bool := rngB d0 0 4095 && (rngB d1 0 255 && (rngB d2 0 3 && (rngB d3 0 7 && (decide (d8.length = 16) && d8.all byB))))
set_option maxRecDepth 100000 in
theorem isAddressR (n : Int) (w : World) : Calls Try.prog 70 #[.int .i64 n] w fun e w' => e = .returned (.bool (rngB n 0 4095)) ∧ w = w' := isAddress n w
set_option maxRecDepth 100000 in
theorem isByteR (n : Int) (w : World) : Calls Try.prog 71 #[.int .i64 n] w fun e w' => e = .returned (.bool (rngB n 0 255)) ∧ w = w' := isByte n w
set_option maxRecDepth 100000 in
theorem l05AtR (n : Int) (w : World) : Calls Try.prog 97 #[.int .i64 n] w fun e w' => e = .returned (.bool (rngB n 0 4095)) ∧ w = w' := l05At n w

/-- A register of the bank, and the code. -/
def regF (d0 d1 d2 d3 : Int) (d8 : List Int) (k : Int) : Int × Int := if okCpu d0 d1 d2 d3 d8 then (if rngB k 0 3 then (d8.getD (4 * d2 + k).toNat 0, 0) else (0, 4)) else (0, 1)
theorem okCpu_ok {d0 d1 d2 d3 : Int} {d8 : List Int} (h : okCpu d0 d1 d2 d3 d8 = true) (d4 d5 d6 d7 : Bool) : (⟨d0, d1, d2, d3, d4, d5, d6, d7, d8⟩ : CD).Ok := CD.ok_iff.1 h
theorem rngB_says {n lo hi : Int} (h : rngB n lo hi = true) : lo ≤ n ∧ n ≤ hi := by simpa [rngB] using h

end Go.Proofs.Ytagdclbpgkilgaa

/- The processor's own methods: wrap, place, flags, push, callAt, enter; processorOf. Written by gen_procm.py. -/
namespace Go.Proofs.Ytagdclbpgkilgaa
open Go.RowKit

def WritesM (a : PA) (m : MD) (w : World) (e : Ending) (w' : World) : Prop :=
  e = .returned (.tuple #[]) ∧ Hid (BusAt w' a.R a.g a.b0 a.b1 a.b2 a.b3 a.A0 a.A1 a.c0 a.c1 m.r m.i m.z m.g m.s) ∧ Hid (∀ b t cs, t ≠ 3 → t ≠ 111 → Box w b t cs → Box w' b t cs) ∧ Below a.R w w'
set_option maxRecDepth 100000 in
theorem busWriteM (a : PA) (m : MD) (w : World) (k v : Int) (h0 : 0 ≤ k) (h1 : k ≤ 4095) (hv0 : 0 ≤ v) (hv1 : v ≤ 255) (hm : m.Ok) (B : BusAt w a.R a.g a.b0 a.b1 a.b2 a.b3 a.A0 a.A1 a.c0 a.c1 m.r m.i m.z m.g m.s) :
    Calls Try.prog 75 #[.agg #[.pointer (some ⟨a.b0, 0, none⟩), .pointer (some ⟨a.b1, 0, none⟩), .pointer (some ⟨a.b2, 0, none⟩), .pointer (some ⟨a.b3, 0, none⟩)], .int .i64 k, .int .i64 v] w (WritesM a (m.put k v) w) := by
  obtain ⟨j, rfl⟩ : ∃ j : Nat, k = j := ⟨k.toNat, by omega⟩
  obtain ⟨u, rfl⟩ : ∃ u : Nat, v = u := ⟨v.toNat, by omega⟩
  exact busWrite a.R a.g a.b0 a.b1 a.b2 a.b3 a.A0 a.A1 a.c0 a.c1 m.r m.i m.z m.g m.s w j u (by omega) (by omega) hm.r hm.i hm.z hm.g hm.s hm.zb B
theorem OwnI.lowB {w w' : World} {lo hi n : Nat} {A : Option Addr} {zs : List Int} (h : OwnI w lo hi A zs) (k : Below n w w') (hn : hi ≤ n) : OwnI w' lo hi A zs := h.btw (Btw.of_low k) (.inl hn)
end Go.Proofs.Ytagdclbpgkilgaa

/- The checks of a move, the ring of addresses, channels written field by field. Written by gen_dmaimpl.py. -/
namespace Go.Proofs.Ytagdclbpgkilgaa
open Go.RowKit

set_option maxRecDepth 100000 in
theorem ringAfter (n s : Int) (w : World) (h0 : 0 ≤ n) (h1 : n ≤ 4095) (g0 : 0 ≤ s) (g1 : s ≤ 1) :
    Calls Try.prog 77 #[.agg #[.int .i64 4096], .int .i64 n, .int .i64 s] w fun e w' => e = .returned (.int .i64 ((n + s) % 4096)) ∧ Below w.heap.size w w' := by
  have m1 : (n + s).tmod 4096 = (n + s) % 4096 := Int.tmod_eq_emod_of_nonneg (by omega)
  have m2 : IntKind.i64.wrap (n + s) = n + s := IntWalk.i64_in _ (by omega)
  have hb0 := alloc_below w (.cells #[.int .i64 4096] 117)
  clear h0 h1 g0 g1
  go_enter Try.func77, Try.ntmps77
  go_wp2
  go_ret
  exact ⟨rfl, hb0⟩
theorem moveCode_chan (m : MD) (rs : List TChannel) (i : Int) : moveCode m rs i = if chanC rs i = 2 then 2 else if m.ok = true then chanC rs i else 1 := by
  unfold moveCode chanC
  by_cases h1 : 4096 < rs.length
  · simp [h1]
  · rw [if_neg h1, if_neg h1]
    cases m.ok <;> cases dmaB rs <;> cases chanB i <;> simp
set_option maxRecDepth 100000 in
set_option maxHeartbeats 2000000 in
theorem checkMove (A0 A1 A2 A3 : Option Addr) (n0 n1 n2 n3 c0 c1 c2 c3 : Nat) (m : MD) (A : Option Addr) (n c : Nat) (rs : List TChannel) (i : Int) (w : World) (l0 : m.r.length = n0) (l1 : m.i.length = n1) (l2 : m.z.length = n2) (l3 : m.g.length = n3) (q0 : n0 ≤ maxLen) (q1 : n1 ≤ maxLen) (q2 : n2 ≤ maxLen) (q3 : n3 ≤ maxLen) (h0 : IntL w A0 m.r) (h1 : IntL w A1 m.i) (h2 : IntL w A2 m.z) (hl : rs.length = n) (hn : n ≤ maxLen) (hrow : RowChannel w A rs) :
    Calls Try.prog 43 #[.agg #[.slice A0 n0 c0, .slice A1 n1 c1, .slice A2 n2 c2, .slice A3 n3 c3, .int .i64 m.s], .slice A n c, .int .i64 i] w fun e w' => e = .returned (.int .i64 (moveCode m rs i)) ∧ Below w.heap.size w w' := by
  obtain ⟨W0, hW0⟩ : ∃ W0, W0 = w.alloc (.cells #[.slice A0 n0 c0, .slice A1 n1 c1, .slice A2 n2 c2, .slice A3 n3 c3, .int .i64 m.s] 28) := ⟨_, rfl⟩
  have hb0 : Below w.heap.size w W0 := by rw [hW0]; exact alloc_below _ _
  have X0 : Hid (Box W0 w.heap.size 28 #[.slice A0 n0 c0, .slice A1 n1 c1, .slice A2 n2 c2, .slice A3 n3 c3, .int .i64 m.s]) := Lib.hid (by rw [hW0]; exact Box.new _ _ _)
  have HC := Lib.hid (checkChannel A n c rs i W0 hl hn (hrow.below hb0))
  have HM := Lib.hid (fun W (hb : Below w.heap.size w W) => memValid A0 A1 A2 A3 n0 n1 n2 n3 c0 c1 c2 c3 m.r m.i m.z m.g m.s W l0 l1 l2 l3 q0 q1 q2 q3 (h0.below hb) (h1.below hb) (h2.below hb))
  have HOm : Hid (okMem m.r m.i m.z m.g m.s = m.ok) := Lib.hid rfl
  rw [HOm.out] at HM
  have HE := Lib.hid (moveCode_chan m rs i)
  have HW0 := Lib.hid hW0
  generalize chanC rs i = cd at HC HE
  generalize moveCode m rs i = r at HE ⊢
  clear l0 l1 l2 l3 q0 q1 q2 q3 h0 h1 h2 hl hn hrow HOm hW0
  by_cases hz : cd = 2
  · subst hz
    have HF : Hid (r = 2) := Lib.hid (by rw [HE.out, if_pos rfl])
    clear HE HM
    go_enter Try.func43, Try.ntmps43
    go_wp2_with fail
    rw [← HW0.out]
    refine HC.out.mono ?_
    rintro e w1 ⟨rfl, hb1⟩
    go_wp2
    go_ret
    exact ⟨ret_int HF.out.symm, bt hb0 hb1⟩
  · have hq : (cd != 2) = true := by simpa using hz
    rw [if_neg hz] at HE
    generalize m.ok = okm at HM HE
    go_enter Try.func43, Try.ntmps43
    go_wp2_with fail
    rw [← HW0.out]
    refine HC.out.mono ?_
    rintro e w1 ⟨rfl, hb1⟩
    have X1 := X0.out.step hb1
    have f0 := X1.cell 0 rfl
    have f1 := X1.cell 1 rfl
    have f2 := X1.cell 2 rfl
    have f3 := X1.cell 3 rfl
    have f4 := X1.cell 4 rfl
    clear X1 X0 hz
    go_wp2_with fail
    refine (HM.out _ (bt hb0 hb1)).mono ?_
    rintro e w2 ⟨rfl, hb2⟩
    clear f0 f1 f2 f3 f4
    cases okm with
    | true =>
      go_wp2
      go_ret
      exact ⟨ret_int (by rw [HE.out]; simp), bt (bt hb0 hb1) hb2⟩
    | false =>
      go_wp2
      go_ret
      exact ⟨ret_int (by rw [HE.out]; rfl), bt (bt hb0 hb1) hb2⟩
/-- Channels of the call's own are kept where boxes of their type are. -/
theorem OwnChannel.kept {w w' : World} {lo hi : Nat} {A : Option Addr} {rs : List TChannel} (h : OwnChannel w lo hi A rs) (N : ∀ b t cs, t ≠ 3 → t ≠ 111 → Box w b t cs → Box w' b t cs) : OwnChannel w' lo hi A rs := by
  rcases h with e | ⟨b, m, f, e, h1, h2, hm, ⟨c, hb, hs, hc⟩, hf⟩
  · exact .inl e
  · exact .inr ⟨b, m, f, e, h1, h2, hm, ⟨c, N b 36 c (by decide) (by decide) hb, hs, hc⟩, hf⟩
theorem OwnChannel.stepB {w w' : World} {lo hi : Nat} {A : Option Addr} {rs : List TChannel} (h : OwnChannel w lo hi A rs) (k : Below w.heap.size w w') : OwnChannel w' lo hi A rs := OwnChannel.below h k
theorem OwnChannel.open4 {w : World} {lo hi b : Nat} {rs : List TChannel} (h : OwnChannel w lo hi (some ⟨b, 0, none⟩) rs) (k : Nat) (hk : k < rs.length) {x1 x2 x3 x4 : Int} (hx : rs.getD k zChannel = (x1, x2, x3, x4)) :
    (w.cell? ⟨b, k * 4, none⟩ = some (.int .i64 x1) ∧ w.cell? ⟨b, k * 4 + 1, none⟩ = some (.int .i64 x2) ∧ w.cell? ⟨b, k * 4 + 2, none⟩ = some (.int .i64 x3) ∧ w.cell? ⟨b, k * 4 + 3, none⟩ = some (.int .i64 x4)) ∧ (∀ x, w.frozen? ⟨b, x, none⟩ = false) ∧ lo ≤ b ∧ b < hi := by
  obtain ⟨b', m, f, e, hc, hz, q1, q2, _⟩ := h.put k hk
  injection e with e
  injection e with e _ _
  subst e
  rw [hx] at hc
  exact ⟨hc, hz, q1, q2⟩
theorem OwnChannel.set1 {w : World} {lo hi b : Nat} {rs : List TChannel} (h : OwnChannel w lo hi (some ⟨b, 0, none⟩) rs) (k : Nat) (hk : k < rs.length) {x1 x2 x3 x4 : Int} (hx : rs.getD k zChannel = (x1, x2, x3, x4)) (j : Nat) (hj : j < 4) (u : Value) (y : TChannel) (hy : rowChannel y = (rowChannel (x1, x2, x3, x4)).set j u) :
    OwnChannel (w.setCell ⟨b, k * 4 + j, none⟩ u) lo hi (some ⟨b, 0, none⟩) (rs.set k y) := by
  rcases h with hnil | ⟨b', m, f, e, h1, h2, hm, hr, hf⟩
  · have hq := congrArg List.length hnil
    rw [List.length_map, List.length_nil] at hq
    omega
  · injection e with e
    injection e with e _ _
    subst e
    have hl : (rs.map rowChannel).length = rs.length := by simp
    have e2 : (rs.set k y).map rowChannel = (rs.map rowChannel).set k (rowChannel y) := by rw [List.map_set]
    have hrow := rowChannel_at rs k hk
    unfold OwnChannel
    rw [e2]
    refine OwnR.anew h1 h2 hm hf (hr.set (k * 4 + j) u) (fun x hx' => ?_) (fun i hi' => ?_)
    · show (if x = k * 4 + j then _ else f x) = f x
      rw [if_neg (by omega)]
    · show (if k * 4 + i = k * 4 + j then u else f (k * 4 + i)) = _
      rw [hy]
      by_cases q : i = j
      · subst q
        rw [if_pos rfl, List.getD_eq_getElem?_getD, List.getElem?_set_self (by simpa [rowChannel] using hj)]
        rfl
      · rw [if_neg (by omega), hf k (by rw [hl]; exact hk) i hi', hrow, hx]
        simp only [List.getD_eq_getElem?_getD]
        rw [List.getElem?_set_ne (fun h => q h.symm)]
theorem set_set_getD (rs : List TChannel) (k : Nat) (y : TChannel) (hk : k < rs.length) : (rs.set k y).getD k zChannel = y := by
  rw [List.getD_eq_getElem?_getD, List.getElem?_set_self hk]; rfl
end Go.Proofs.Ytagdclbpgkilgaa
