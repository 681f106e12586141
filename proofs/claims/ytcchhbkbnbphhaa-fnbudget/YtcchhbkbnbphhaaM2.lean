/- Texts of this claim, one behind the other: App, PlanMath, Root, Sets, Digs, ReadExt, ReadDisk, Pages, Ask, NewDisk. -/
import Derived.Test.YtcchhbkbnbphhaaRows
import Derived.Laws.AppendOwn
import Derived.OwnWalk
import Derived.Maps.Own
import Derived.Test.YtcchhbkbnbphhaaM1
/- Appending one element to a slice of the call's own; what such a slice is good for. -/
namespace Go.Proofs.Ytcchhbkbnbphhaa
open Go.RowKit

structure Elem (P : Program) (e : TypeId) (z : Value) (size bytes : Nat) : Prop where
  info : ∃ i : TypeInfo, P.info? e = some i ∧ i.zero = some z ∧ i.size = size ∧ i.bytes = bytes
  cells : z.cells.size = size
  pos : 0 < size

abbrev RowV (w : World) (base : Nat) (e : TypeId) (size : Nat) (v : Value) (n : Nat) (xs : List Value) : Prop := w.ownsRow base e size v n xs

theorem rowv_ge {w : World} {base n : Nat} {e : TypeId} {size : Nat} {v : Value} {xs : List Value} (h : w.ownsRow base e size v n xs) : ∀ k, v.ownBlock = some k → base ≤ k := by
  intro k hk
  rcases h.2 with ⟨rfl, _⟩ | ⟨g, cap, cur, rfl, q1, q2⟩
  · simp [Value.ownBlock] at hk
  · simp [Value.ownBlock] at hk; omega
theorem rowv_keep {w w' : World} {base n : Nat} {e : TypeId} {size : Nat} {v : Value} {xs : List Value} (h : w.ownsRow base e size v n xs) (hk : ∀ k, base ≤ k → k < w.heap.size → w'.heap[k]? = w.heap[k]?) : w'.ownsRow base e size v n xs := by
  obtain ⟨h1, h0 | ⟨g, cap, cur, rfl, q1, q2, q3⟩⟩ := h
  · exact ⟨h1, .inl h0⟩
  · refine ⟨h1, .inr ⟨g, cap, cur, rfl, q1, ?_, q3⟩⟩
    have hlt : g < w.heap.size := by
      rcases Nat.lt_or_ge g w.heap.size with hlt | hge
      · exact hlt
      · rw [Array.getElem?_eq_none hge] at q2; cases q2
    rw [hk g q1 hlt]; exact q2
theorem rowv_below {w w' : World} {base n : Nat} {e : TypeId} {size : Nat} {v : Value} {xs : List Value} (h : w.ownsRow base e size v n xs) (hb : Below w.heap.size w w') : w'.ownsRow base e size v n xs := rowv_keep h (fun k _ hk => hb.block k hk)
theorem rowv_set {w : World} {base n : Nat} {e : TypeId} {size : Nat} {v : Value} {xs : List Value} (h : w.ownsRow base e size v n xs) {p : Addr} (hp : p.block < base) (u : Value) : (w.setCell p u).ownsRow base e size v n xs :=
  rowv_keep h (fun k hk _ => Below.heap_setCell w p u k (by omega))
theorem rowv_nil (w : World) (base : Nat) (e : TypeId) (size : Nat) : w.ownsRow base e size (.slice none 0 0) 0 [] := World.ownsRow_nil w base e size
theorem rowv_form {w : World} {base n : Nat} {e : TypeId} {size : Nat} {v : Value} {xs : List Value} (h : w.ownsRow base e size v n xs) : ∃ A cap, v = .slice A n cap ∧ n ≤ cap := by
  rcases h.2 with ⟨rfl, rfl⟩ | ⟨g, cap, cur, rfl, _, _, q, _⟩
  · exact ⟨none, 0, rfl, Nat.le_refl _⟩
  · exact ⟨_, cap, rfl, q⟩
theorem rowv_empty {w : World} {base g : Nat} {t : TypeId} {size : Nat} (hb : base ≤ g) (hg : Box w g t #[]) : w.ownsRow base t size (.slice (some ⟨g, 0, none⟩) 0 0) 0 [] :=
  ⟨by simp, .inr ⟨g, 0, #[], rfl, hb, hg, Nat.le_refl _, Nat.zero_le _, by simp, by simp⟩⟩

theorem wpList_app_one {P : Program} {w : World} {ops : Array Oper} {rest : List Oper} {o : Oper} {a : Act} {Q : Exit → Act → World → Prop} (hgd : o.guard = none) (s x : Operand) (t e : TypeId)
    (ho : o.op = .call { callee := .builtin .append, args := #[s, x], argTypes := #[t, t] }) (z : Value) (size bytes : Nat) (E : Elem P e z size bytes) (ht : P.underlying t = some (.slice e))
    (base : Nat) (v : Value) (n : Nat) (xs : List Value) (hs : a.eval s = v) (hown : w.ownsRow base e size v n xs)
    (b c : Nat) (hx : a.eval x = .slice (some ⟨b, 0, none⟩) 1 c) (news : List Value) (hl : news.length = size) (hnews : ∀ j u, news[j]? = some u → w.cell? ⟨b, j, none⟩ = some u) (h1 : ∀ u ∈ news, u.oneCell' = true)
    (h63 : n + 1 ≤ maxLen) (hby : (n + 1) * bytes ≤ 140737488355328) (hbase : base ≤ w.heap.size)
    (hK : ∀ A cap w', w'.ownsRow base e size (.slice A (n + 1) cap) (n + 1) (xs ++ news) → n + 1 ≤ cap → w.grownBy w' v.ownBlock → Below base w w' → wpList P ops Q rest (a.put o.dst (.slice A (n + 1) cap)) w') : wpList P ops Q (o :: rest) a w := by
  obtain ⟨i, hi, hz, hsz, hb⟩ := E.info
  refine wpList_append_own w hgd s x t ho base e i z size bytes ht hi hz hsz hb E.cells E.pos v n xs hs hown ⟨b, 0, none⟩ 1 c news hx (by rw [hl]; omega) (fun j u hj => ?_) h1 h63 hby hbase (fun v' w' h2 h3 _ => ?_)
  · have := hnews j u hj
    unfold Addr.add
    by_cases h0 : j = 0
    · subst h0; simpa using this
    · rw [if_neg h0]; simpa using this
  · obtain ⟨A, cap, rfl, hcap⟩ := rowv_form h2
    exact hK A cap w' h2 hcap h3 ((Below.refl base w).grown h3 hbase (rowv_ge hown))

theorem wpList_app_many {P : Program} {w : World} {ops : Array Oper} {rest : List Oper} {o : Oper} {a : Act} {Q : Exit → Act → World → Prop} (hgd : o.guard = none) (s x : Operand) (t e : TypeId)
    (ho : o.op = .call { callee := .builtin .append, args := #[s, x], argTypes := #[t, t] }) (z : Value) (size bytes : Nat) (E : Elem P e z size bytes) (ht : P.underlying t = some (.slice e))
    (base : Nat) (v : Value) (n : Nat) (xs : List Value) (hs : a.eval s = v) (hown : w.ownsRow base e size v n xs)
    (ad : Addr) (m c : Nat) (hx : a.eval x = .slice (some ad) m c) (news : List Value) (hl : news.length = m * size) (hnews : ∀ j u, news[j]? = some u → w.cell? (ad.add j) = some u) (h1 : ∀ u ∈ news, u.oneCell' = true)
    (h63 : n + m ≤ maxLen) (hby : (n + m) * bytes ≤ 140737488355328) (hbase : base ≤ w.heap.size)
    (hK : ∀ A cap w', w'.ownsRow base e size (.slice A (n + m) cap) (n + m) (xs ++ news) → n + m ≤ cap → w.grownBy w' v.ownBlock → Below base w w' → wpList P ops Q rest (a.put o.dst (.slice A (n + m) cap)) w') : wpList P ops Q (o :: rest) a w := by
  obtain ⟨i, hi, hz, hsz, hb⟩ := E.info
  refine wpList_append_own w hgd s x t ho base e i z size bytes ht hi hz hsz hb E.cells E.pos v n xs hs hown ad m c news hx hl hnews h1 h63 hby hbase (fun v' w' h2 h3 _ => ?_)
  obtain ⟨A, cap, rfl, hcap⟩ := rowv_form h2
  exact hK A cap w' h2 hcap h3 ((Below.refl base w).grown h3 hbase (rowv_ge hown))

theorem step_app_one {P : Program} {w : World} {ops : Array Oper} {o : Oper} {a : Act} {K : Act → World → Prop} {Q : Exit → Act → World → Prop} {X : Prop} (hgd : o.guard = none) (s x : Operand) (t e : TypeId)
    (ho : o.op = .call { callee := .builtin .append, args := #[s, x], argTypes := #[t, t] }) (z : Value) (size bytes : Nat) (E : Elem P e z size bytes) (ht : P.underlying t = some (.slice e))
    (base : Nat) (v : Value) (n : Nat) (xs : List Value) (hs : a.eval s = v) (hown : w.ownsRow base e size v n xs)
    (b c : Nat) (hx : a.eval x = .slice (some ⟨b, 0, none⟩) 1 c) (news : List Value) (hl : news.length = size) (hnews : ∀ j u, news[j]? = some u → w.cell? ⟨b, j, none⟩ = some u) (h1 : ∀ u ∈ news, u.oneCell' = true)
    (h63 : n + 1 ≤ maxLen) (hby : (n + 1) * bytes ≤ 140737488355328) (hbase : base ≤ w.heap.size)
    (hK : ∀ A cap w', w'.ownsRow base e size (.slice A (n + 1) cap) (n + 1) (xs ++ news) → n + 1 ≤ cap → w.grownBy w' v.ownBlock → Below base w w' → K (a.put o.dst (.slice A (n + 1) cap)) w') :
    if Region.wanted o (yielded ops a.tmps) = true then Oper.wp P o a w K Q else X := by
  have hw : Region.wanted o (yielded ops a.tmps) = true := by simp [Region.wanted, hgd]
  rw [if_pos hw]
  obtain ⟨i, hi, hz, hsz, hb⟩ := E.info
  refine wp_append_own w s x t ho base e i z size bytes ht hi hz hsz hb E.cells E.pos v n xs hs hown ⟨b, 0, none⟩ 1 c news hx (by rw [hl]; omega) (fun j u hj => ?_) h1 h63 hby hbase (fun v' w' h2 h3 _ => ?_)
  · have := hnews j u hj
    unfold Addr.add
    by_cases h0 : j = 0
    · subst h0; simpa using this
    · rw [if_neg h0]; simpa using this
  · obtain ⟨A, cap, rfl, hcap⟩ := rowv_form h2
    exact hK A cap w' h2 hcap h3 ((Below.refl base w).grown h3 hbase (rowv_ge hown))

theorem Box.grown {w w' : World} {b base n : Nat} {t e : TypeId} {cs : Array Value} {size : Nat} {v : Value} {xs : List Value} (h : Box w b t cs) (hr : w.ownsRow base e size v n xs) (ht : t ≠ e) (hg : w.grownBy w' v.ownBlock) : Box w' b t cs := by
  have hlt := h.lt
  refine (hg.block b hlt ?_).trans h
  rcases hr.2 with ⟨rfl, _⟩ | ⟨g, cap, cur, rfl, _, q2, _⟩
  · simp [Value.ownBlock]
  · simp only [Value.ownBlock, ne_eq, Option.some.injEq]
    rintro rfl
    unfold Box at h
    rw [h] at q2
    injection q2 with q2
    injection q2 with _ q3
    exact ht q3
theorem rowv_setBox {w : World} {base n b : Nat} {t e : TypeId} {cs : Array Value} {size : Nat} {v : Value} {xs : List Value} (h : w.ownsRow base e size v n xs) (X : Box w b t cs) (ht : t ≠ e) (i : Nat) (u : Value) : (w.setCell ⟨b, i, none⟩ u).ownsRow base e size v n xs := by
  obtain ⟨h1, h0 | ⟨g, cap, cur, rfl, q1, q2, q3⟩⟩ := h
  · exact ⟨h1, .inl h0⟩
  · refine ⟨h1, .inr ⟨g, cap, cur, rfl, q1, ?_, q3⟩⟩
    refine (Below.heap_setCell w ⟨b, i, none⟩ u g ?_).trans q2
    rintro rfl
    unfold Box at X
    rw [X] at q2
    injection q2 with q2
    injection q2 with _ q3
    exact ht q3
set_option maxRecDepth 100000 in
theorem elemInt : Elem Try.prog 3 (.int .i64 0) 1 8 := ⟨⟨_, rfl, rfl, rfl, rfl⟩, rfl, by decide⟩
set_option maxRecDepth 100000 in
theorem elemWr : Elem Try.prog 67 (.agg #[.int .i64 0, .string ByteArray.empty]) 2 24 := ⟨⟨_, rfl, rfl, rfl, rfl⟩, rfl, by decide⟩

def GroI (w : World) (base : Nat) (v : Value) (zs : List Int) : Prop := w.ownsRow base 3 1 v zs.length (zs.map (Value.int .i64))
def GroS (w : World) (base : Nat) (v : Value) (ss : List ByteArray) : Prop := w.ownsRow base 9 1 v ss.length (ss.map Value.string)
theorem GroI.own {w : World} {base lo : Nat} {A : Option Addr} {n c : Nat} {zs : List Int} (h : GroI w base (.slice A n c) zs) (hb : lo ≤ base) : OwnI w lo w.heap.size A zs := by
  obtain ⟨h1, ⟨h0, h2⟩ | ⟨g, cap, cur, hv, q1, q2, q3, q4, q5, q6⟩⟩ := h
  · exact .inl (List.eq_nil_of_length_eq_zero h2)
  · injection hv with hv1 hv2 hv3
    refine .inr ⟨g, cap, fun i => cur.getD i (.int .i64 0), hv1, by omega, (Array.getElem?_eq_some_iff.1 q2).1, q3, ⟨cur, q2, by omega, fun i hi => ?_⟩, fun i hi => ?_⟩
    · simp [Array.getElem?_eq_getElem (show i < cur.size by omega)]
    · have : (cur.toList.take (zs.length * 1))[i]? = (zs.map (Value.int .i64))[i]? := by rw [q6]
      rw [List.getElem?_take, if_pos (by omega), Array.getElem?_toList, List.getElem?_map, List.getElem?_eq_getElem hi] at this
      simp [this, List.getD_eq_getElem?_getD, List.getElem?_eq_getElem hi]
theorem GroS.own {w : World} {base lo : Nat} {A : Option Addr} {n c : Nat} {ss : List ByteArray} (h : GroS w base (.slice A n c) ss) (hb : lo ≤ base) : OwnS w lo w.heap.size A ss := by
  obtain ⟨h1, ⟨h0, h2⟩ | ⟨g, cap, cur, hv, q1, q2, q3, q4, q5, q6⟩⟩ := h
  · exact .inl (List.eq_nil_of_length_eq_zero h2)
  · injection hv with hv1 hv2 hv3
    refine .inr ⟨g, cap, fun i => cur.getD i (.int .i64 0), hv1, by omega, (Array.getElem?_eq_some_iff.1 q2).1, q3, ⟨cur, q2, by omega, fun i hi => ?_⟩, fun i hi => ?_⟩
    · simp [Array.getElem?_eq_getElem (show i < cur.size by omega)]
    · have : (cur.toList.take (ss.length * 1))[i]? = (ss.map Value.string)[i]? := by rw [q6]
      rw [List.getElem?_take, if_pos (by omega), Array.getElem?_toList, List.getElem?_map, List.getElem?_eq_getElem hi] at this
      simp [this, List.getD_eq_getElem?_getD, List.getElem?_eq_getElem hi]
theorem GroI.len {w : World} {base : Nat} {A : Option Addr} {n c : Nat} {zs : List Int} (h : GroI w base (.slice A n c) zs) : zs.length = n := by
  obtain ⟨A', cap, hv, _⟩ := rowv_form h
  injection hv with _ hv2 _; exact hv2.symm
theorem GroS.len {w : World} {base : Nat} {A : Option Addr} {n c : Nat} {ss : List ByteArray} (h : GroS w base (.slice A n c) ss) : ss.length = n := by
  obtain ⟨A', cap, hv, _⟩ := rowv_form h
  injection hv with _ hv2 _; exact hv2.symm
end Go.Proofs.Ytcchhbkbnbphhaa

/- The plan of a commit in plain words: the model's, page by page, and the program's, by places. -/
namespace Go.Proofs.Ytcchhbkbnbphhaa

def planN (zs free : List Int) (ld ps : List ByteArray) : Nat → List Int × List (Int × ByteArray)
  | 0 => (zs, [])
  | k + 1 =>
    let q := planN zs free ld ps k
    if ld.getD k ByteArray.empty = ps.getD k ByteArray.empty then q
    else (q.1.set k (free.getD q.2.length 0), q.2 ++ [(free.getD q.2.length 0, ps.getD k ByteArray.empty)])
def diffN (ps ld : List ByteArray) : Nat → List Int
  | 0 => []
  | k + 1 => if ps.getD k ByteArray.empty = ld.getD k ByteArray.empty then diffN ps ld k else diffN ps ld k ++ [(k : Int)]
def withN (zs places free : List Int) : Nat → List Int
  | 0 => zs
  | i + 1 => (withN zs places free i).set (places.getD i 0).toNat (free.getD i 0)
def writesN (places free : List Int) (ps : List ByteArray) : Nat → List (Int × ByteArray)
  | 0 => []
  | i + 1 => writesN places free ps i ++ [(free.getD i 0, ps.getD (places.getD i 0).toNat ByteArray.empty)]

theorem diffN_len (ps ld : List ByteArray) : ∀ k, (diffN ps ld k).length ≤ k
  | 0 => Nat.le_refl _
  | k + 1 => by
    have := diffN_len ps ld k
    unfold diffN; split
    · omega
    · rw [List.length_append]; simp; omega
theorem diffN_lt (ps ld : List ByteArray) : ∀ k, ∀ z ∈ diffN ps ld k, 0 ≤ z ∧ z < (k : Int)
  | 0, z, h => by cases h
  | k + 1, z, h => by
    have ih := diffN_lt ps ld k
    unfold diffN at h; split at h
    · have := ih z h; omega
    · rcases List.mem_append.1 h with h | h
      · have := ih z h; omega
      · simp at h; omega
theorem withN_len (zs places free : List Int) : ∀ i, (withN zs places free i).length = zs.length
  | 0 => rfl
  | i + 1 => by rw [withN, List.length_set, withN_len zs places free i]
theorem writesN_len (places free : List Int) (ps : List ByteArray) : ∀ i, (writesN places free ps i).length = i
  | 0 => rfl
  | i + 1 => by rw [writesN, List.length_append, writesN_len places free ps i]; rfl
theorem getD_left {α : Type} (l m : List α) (d : α) (i : Nat) (h : i < l.length) : (l ++ m).getD i d = l.getD i d := by
  rw [List.getD_eq_getElem?_getD, List.getD_eq_getElem?_getD, List.getElem?_append_left h]
theorem getD_last {α : Type} (l : List α) (x d : α) : (l ++ [x]).getD l.length d = x := by
  rw [List.getD_eq_getElem?_getD, List.getElem?_append_right (Nat.le_refl _), Nat.sub_self]; rfl
theorem withN_pre (zs l m free : List Int) : ∀ i, i ≤ l.length → withN zs (l ++ m) free i = withN zs l free i
  | 0, _ => rfl
  | i + 1, h => by rw [withN, withN, withN_pre zs l m free i (by omega), getD_left _ _ _ _ (by omega)]
theorem writesN_pre (l m free : List Int) (ps : List ByteArray) : ∀ i, i ≤ l.length → writesN (l ++ m) free ps i = writesN l free ps i
  | 0, _ => rfl
  | i + 1, h => by rw [writesN, writesN, writesN_pre l m free ps i (by omega), getD_left _ _ _ _ (by omega)]
theorem plan_eq (zs free : List Int) (ld ps : List ByteArray) : ∀ k, planN zs free ld ps k = (withN zs (diffN ps ld k) free (diffN ps ld k).length, writesN (diffN ps ld k) free ps (diffN ps ld k).length)
  | 0 => rfl
  | k + 1 => by
    have ih := plan_eq zs free ld ps k
    unfold planN diffN
    by_cases h : ld.getD k ByteArray.empty = ps.getD k ByteArray.empty
    · rw [if_pos h, if_pos h.symm, ih]
    · rw [if_neg h, if_neg (fun q => h q.symm), ih]
      simp only [writesN_len, List.length_append, List.length_cons, List.length_nil]
      rw [withN, writesN, withN_pre _ _ _ _ _ (Nat.le_refl _), writesN_pre _ _ _ _ _ (Nat.le_refl _), getD_last]
      simp
theorem planN_len (zs free : List Int) (ld ps : List ByteArray) (k : Nat) : (planN zs free ld ps k).2.length = (diffN ps ld k).length := by rw [plan_eq]; exact writesN_len _ _ _ _
theorem planN_tab (zs free : List Int) (ld ps : List ByteArray) (k : Nat) : (planN zs free ld ps k).1.length = zs.length := by rw [plan_eq]; exact withN_len _ _ _ _

theorem filter_or {α : Type} (p q r : α → Bool) (h : ∀ a, r a = true → p a = true ∨ q a = true) : ∀ l : List α, (l.filter r).length ≤ (l.filter p).length + (l.filter q).length
  | [] => by simp
  | a :: l => by
    have ih := filter_or p q r h l
    have ha := h a
    simp only [List.filter_cons]
    cases hr : r a <;> cases hp : p a <;> cases hq : q a <;> simp_all <;> omega
theorem held_le (zs : List Int) : ∀ j : Nat, ((List.range j).filter fun i => decide (((i + 2 : Nat) : Int) ∈ zs)).length ≤ zs.length := by
  induction zs with
  | nil => intro j; simp
  | cons z zs ih =>
    intro j
    have h1 : ((List.range j).filter fun i => decide (((i + 2 : Nat) : Int) ∈ z :: zs)).length ≤ ((List.range j).filter fun i => decide (((i + 2 : Nat) : Int) ∈ zs)).length + ((List.range j).filter fun i => decide (((i + 2 : Nat) : Int) = z)).length := filter_or _ _ _ (fun a h => by
      have h := of_decide_eq_true h
      rcases List.mem_cons.1 h with h | h
      · exact .inr (decide_eq_true h)
      · exact .inl (decide_eq_true h)) _
    have h2 : ((List.range j).filter fun i => decide (((i + 2 : Nat) : Int) = z)).length ≤ 1 := by
      clear h1 ih
      induction j with
      | zero => simp
      | succ j ihj =>
        rw [List.range_succ, List.filter_append, List.length_append]
        by_cases p : ((j + 2 : Nat) : Int) = z
        · have : ((List.range j).filter fun i => decide (((i + 2 : Nat) : Int) = z)) = [] := by
            rw [List.filter_eq_nil_iff]
            intro a ha q
            have := List.mem_range.1 ha
            simp at q
            omega
          rw [this, List.length_nil, Nat.zero_add]
          exact List.length_filter_le _ [j]
        · rw [show ([j].filter fun i => decide (((i + 2 : Nat) : Int) = z)) = [] from by rw [List.filter_eq_nil_iff]; intro a ha q; simp only [List.mem_singleton] at ha; subst ha; exact p (of_decide_eq_true q)]
          simpa using ihj
    have := ih j
    simp only [List.length_cons]
    omega
end Go.Proofs.Ytcchhbkbnbphhaa

/- Contracts of szRoot, toRoot, eqRoot, markRoot, heldRoot; a root behind a box. -/
namespace Go.Proofs.Ytcchhbkbnbphhaa
open Go.RowKit

def GivesRoot (g : Int) (zs : List Int) (w : World) (e : Ending) (w' : World) : Prop :=
  ∃ A n c, e = .returned (.agg #[.int .i64 g, .slice A n c]) ∧ Hid (zs.length = n) ∧ Hid (OwnI w' w.heap.size w'.heap.size A zs) ∧ n ≤ c ∧ Below w.heap.size w w'

structure BR (w : World) (b lo hi : Nat) (g : Int) (A : Option Addr) (n c : Nat) (zs : List Int) : Prop where
  box : Box w b 31 #[.int .i64 g, .slice A n c]
  s : OwnI w lo hi A zs
section
variable {w w' : World} {b lo hi : Nat} {g : Int} {A : Option Addr} {n c : Nat} {zs : List Int}
theorem BR.step (h : BR w b lo hi g A n c zs) (hb : Below w.heap.size w w') : BR w' b lo hi g A n c zs := ⟨h.box.step hb, h.s.below hb⟩
theorem BR.btw {l r : Nat} (h : BR w b lo hi g A n c zs) (hb : Btw l r w w') (h1 : b < l ∨ r ≤ b) (h2 : hi ≤ l ∨ r ≤ lo) : BR w' b lo hi g A n c zs := ⟨h.box.btw hb h1, h.s.btw hb h2⟩
theorem BR.new (hs : OwnI w lo hi A zs) : BR (w.alloc (.cells #[.int .i64 g, .slice A n c] 31)) w.heap.size lo hi g A n c zs :=
  ⟨Box.new _ _ _, hs.below (alloc_below w _)⟩
theorem BR.f0 (h : BR w b lo hi g A n c zs) : w.cell? ⟨b, 0, none⟩ = some (.int .i64 g) := h.box.cell 0 rfl
theorem BR.f1 (h : BR w b lo hi g A n c zs) : w.cell? ⟨b, 1, none⟩ = some (.slice A n c) := h.box.cell 1 rfl
end
theorem OwnI.wide {w : World} {lo hi lo' hi' : Nat} {A : Option Addr} {zs : List Int} (h : OwnI w lo hi A zs) (h1 : lo' ≤ lo) (h2 : hi ≤ hi') : OwnI w lo' hi' A zs := by
  rcases h with e | ⟨b, m, f, e, p1, p2, hm, hr, hf⟩
  · exact .inl e
  · exact .inr ⟨b, m, f, e, by omega, by omega, hm, hr, hf⟩
theorem OwnI.far {w : World} {lo hi : Nat} {A : Option Addr} {zs : List Int} (h : OwnI w lo hi A zs) {b : Nat} {t : TypeId} {cs : Array Value} (X : Box w b t cs) (ht : t ≠ 3) (i : Nat) (u : Value) : OwnI (w.setCell ⟨b, i, none⟩ u) lo hi A zs := by
  rcases h with e | ⟨b', m, f, e, p1, p2, hm, hr, hf⟩
  · exact .inl e
  · exact .inr ⟨b', m, f, e, p1, p2, hm, hr.setOther (a := ⟨b, i, none⟩) (by exact (X.ne hr ht).symm) u, hf⟩

end Go.Proofs.Ytcchhbkbnbphhaa

/- A map[int]bool of the call's own whose values are all true: a set of integers, as the list of its keys. -/
namespace Go.Proofs.Ytcchhbkbnbphhaa
open Go.RowKit

def SetI (w : World) (b : Nat) (ks : List Int) : Prop :=
  ∃ es clock, w.heap[b]? = some (.map es clock) ∧ es.toList.map (·.key) = ks.map (Value.int .i64) ∧ ∀ x ∈ es.toList, x.val = .bool true
def addK (ks : List Int) (z : Int) : List Int := if z ∈ ks then ks else ks ++ [z]
def keysOf (zs : List Int) : List Int := zs.foldl addK []

theorem SetI.lt {w : World} {b : Nat} {ks : List Int} (h : SetI w b ks) : b < w.heap.size := by
  obtain ⟨es, clock, hb, _⟩ := h
  exact (Array.getElem?_eq_some_iff.1 hb).1
theorem SetI.below {w w' : World} {b : Nat} {ks : List Int} (h : SetI w b ks) (hb : Below w.heap.size w w') : SetI w' b ks := by
  have hlt := h.lt
  obtain ⟨es, clock, h1, h2, h3⟩ := h
  exact ⟨es, clock, (hb.block b hlt).trans h1, h2, h3⟩
theorem SetI.made (w : World) : SetI (w.alloc (.map #[] 0)) w.heap.size [] := ⟨#[], 0, (MapKept.heap_alloc w _).1, by simp, by simp⟩

theorem find_set (z : Int) : ∀ (l : List MapEntry) (ks : List Int) (i : Nat), l.map (·.key) = ks.map (Value.int .i64) → (∀ x ∈ l, x.val = .bool true) →
    (z ∈ ks → ∃ j e0, Instr.findNow (.int .i64) (.int .i64 z) l i = some (some (i + j, .bool true)) ∧ l[j]? = some e0 ∧ e0.key = .int .i64 z) ∧
    (z ∉ ks → Instr.findNow (.int .i64) (.int .i64 z) l i = some none)
  | [], ks, i, hk, _ => by
    have : ks = [] := by cases ks with | nil => rfl | cons a r => simp at hk
    subst this
    exact ⟨fun h => by simp at h, fun _ => rfl⟩
  | e :: l, [], i, hk, _ => by simp at hk
  | e :: l, k :: ks, i, hk, hv => by
    simp only [List.map_cons, List.cons.injEq] at hk
    obtain ⟨hk1, hk2⟩ := hk
    have ih := find_set z l ks (i + 1) hk2 (fun x hx => hv x (by simp [hx]))
    by_cases hz : z = k
    · subst hz
      refine ⟨fun _ => ⟨0, e, ?_, by simp, hk1⟩, fun h => by simp at h⟩
      simp only [Instr.findNow, hk1, Instr.sameNow, if_true, beq_self_eq_true, Nat.add_zero]
      rw [hv e (by simp)]
    · have hs : (z == k) = false := by simpa using hz
      have hf : Instr.findNow (.int .i64) (.int .i64 z) (e :: l) i = Instr.findNow (.int .i64) (.int .i64 z) l (i + 1) := by
        simp only [Instr.findNow, hk1, Instr.sameNow, if_true, hs]
      constructor
      · intro h
        have h' : z ∈ ks := by simpa [hz] using h
        obtain ⟨j, e0, q1, q2, q3⟩ := ih.1 h'
        exact ⟨j + 1, e0, by rw [hf, q1]; congr 3; omega, by simpa using q2, q3⟩
      · intro h
        rw [hf]
        exact ih.2 (fun q => h (by simp [q]))

section
variable {P : Program} {t k e : TypeId}
theorem run_set_len {w : World} {b : Nat} {ks : List Int} (ht : P.underlying t = some (.map k e)) (h : SetI w b ks) (ty : TypeId) : (Builtin.len_ #[t] ty #[.map (some b)]).run P w = .ok (.int .i64 (ks.length : Int)) w := by
  obtain ⟨es, clock, hb, hk, _⟩ := h
  have e1 : es.size = ks.length := by have := congrArg List.length hk; simpa using this
  simp [Builtin.len_, run_underlying ht, MapKept.run_getObj_map hb, goInt, Result.andThen, e1]
theorem run_set_look {w : World} {b : Nat} {ks : List Int} (ht : P.underlying t = some (.map k e)) (hk : P.underlying k = some (.int .i64)) (hz : (zeroValue e).run P w = .ok (.bool false) w) (h : SetI w b ks) (z : Int) :
    (Instr.lookup t (.map (some b)) (.int .i64 z) false).run P w = .ok (.bool (decide (z ∈ ks))) w := by
  obtain ⟨es, clock, hb, hks, hv⟩ := h
  have hf := find_set z es.toList ks 0 hks hv
  by_cases hm : z ∈ ks
  · obtain ⟨j, e0, q1, _, _⟩ := hf.1 hm
    simp [Instr.lookup, run_underlying ht, MapKept.run_getObj_map hb, MapKept.run_checkKey (w := w) hk (show MapKept.IsKey (.int .i64) (.int .i64 z) from rfl) _ 9999, MapKept.run_findKey (w := w) hk q1, Result.andThen, hm]
  · have q1 := hf.2 hm
    simp [Instr.lookup, run_underlying ht, MapKept.run_getObj_map hb, MapKept.run_checkKey (w := w) hk (show MapKept.IsKey (.int .i64) (.int .i64 z) from rfl) _ 9999, MapKept.run_findKey (w := w) hk q1, hz, Result.andThen, hm]
theorem run_set_add {w : World} {b : Nat} {ks : List Int} (ht : P.underlying t = some (.map k e)) (hk : P.underlying k = some (.int .i64)) (h : SetI w b ks) (z : Int) :
    ∃ w', (Instr.mapUpdate t (.map (some b)) (.int .i64 z) (.bool true)).run P w = .ok () w' ∧ SetI w' b (addK ks z) ∧ w.grownBy w' (some b) := by
  obtain ⟨es, clock, hb, hks, hv⟩ := h
  have hf := find_set z es.toList ks 0 hks hv
  have hg : ∀ es' c', w.grownBy (ChangeMaps.setBlock w b (.map es' c')) (some b) := fun es' c' => ⟨rfl, rfl, rfl, by simp [ChangeMaps.setBlock], fun i _ hi => ChangeMaps.heap_setBlock_other hb _ (fun e => hi (by rw [e]))⟩
  by_cases hm : z ∈ ks
  · obtain ⟨j, e0, q1, q2, q3⟩ := hf.1 hm
    have q2' : es[j]? = some e0 := by simpa using q2
    refine ⟨ChangeMaps.setBlock w b (.map (es.modify j fun e => { e with key := .int .i64 z, val := .bool true }) clock), ?_, ⟨_, _, ChangeMaps.heap_setBlock_same hb _, ?_, ?_⟩, hg _ _⟩
    · simp [Instr.mapUpdate, run_underlying ht, MapKept.run_getObj_map hb, MapKept.run_checkKey (w := w) hk (show MapKept.IsKey (.int .i64) (.int .i64 z) from rfl) _ 9999, MapKept.run_findKey (w := w) hk q1, q2', q3, MapKept.run_keyThatStays (w := w) (show MapKept.IsKey (.int .i64) (.int .i64 z) from rfl), MapKept.run_setObj_map _ hb, Result.andThen, ChangeMaps.setBlock]
    · unfold addK
      rw [if_pos hm, ← hks]
      apply List.ext_getElem?
      intro i
      simp only [List.getElem?_map, Array.getElem?_toList, Array.getElem?_modify]
      by_cases hij : j = i
      · subst hij; simp [q2', q3]
      · simp [hij]
    · intro x hx
      obtain ⟨i, hi⟩ := List.getElem?_of_mem hx
      rw [Array.getElem?_toList, Array.getElem?_modify] at hi
      by_cases hij : j = i
      · subst hij; simp [q2'] at hi; rw [← hi]
      · simp [hij] at hi
        exact hv x (by rw [Array.mem_toList_iff]; exact Array.mem_of_getElem? hi)
  · have q1 := hf.2 hm
    refine ⟨ChangeMaps.setBlock w b (.map (es.push ⟨.int .i64 z, .bool true, clock⟩) (clock + 1)), ?_, ⟨_, _, ChangeMaps.heap_setBlock_same hb _, ?_, ?_⟩, hg _ _⟩
    · simp [Instr.mapUpdate, run_underlying ht, MapKept.run_getObj_map hb, MapKept.run_checkKey (w := w) hk (show MapKept.IsKey (.int .i64) (.int .i64 z) from rfl) _ 9999, MapKept.run_findKey (w := w) hk q1, MapKept.run_setObj_map _ hb, Result.andThen, ChangeMaps.setBlock]
    · unfold addK
      rw [if_neg hm]
      simp [hks]
    · intro x hx
      simp only [Array.toList_push, List.mem_append, List.mem_singleton] at hx
      rcases hx with hx | rfl
      · exact hv x hx
      · rfl
end

theorem wpList_set_add {P : Program} (w : World) {ops : Array Oper} {rest : List Oper} {o : Oper} {a : Act} {Q : Exit → Act → World → Prop}
    (hg : o.guard = none) (m x v : Operand) (t : TypeId) (hop : o.op = Op.mapUpdate t m x v) (k e : TypeId) (ht : P.underlying t = some (.map k e)) (hk : P.underlying k = some (.int .i64)) (b : Nat) (ks : List Int) (z : Int)
    (hm : a.eval m = .map (some b)) (hx : a.eval x = .int .i64 z) (hv : a.eval v = .bool true) (hown : SetI w b ks)
    (hK : ∀ w', SetI w' b (addK ks z) → w.grownBy w' (some b) → wpList P ops Q rest (a.put o.dst undef) w') :
    wpList P ops Q (o :: rest) a w := by
  refine wpList_plain hg fun K' hK' => ?_
  obtain ⟨w', hrun, r1, r2⟩ := run_set_add ht hk hown z
  unfold Oper.wp
  simp [execOp, hop, hm, hx, hv, hrun, Result.andThen]
  exact hK' _ _ (hK w' r1 r2)

theorem keysOf_step (zs : List Int) (k : Nat) (h : k < zs.length) : keysOf (zs.take (k + 1)) = addK (keysOf (zs.take k)) (zs.getD k 0) := by
  unfold keysOf
  rw [List.take_succ_eq_append_getElem h, List.foldl_append, List.getD_eq_getElem?_getD, List.getElem?_eq_getElem h]
  rfl

/- The pure side: the keys are the numbers, each once. -/
theorem fold_mem (z : Int) : ∀ (zs ks : List Int), z ∈ zs.foldl addK ks ↔ z ∈ ks ∨ z ∈ zs
  | [], ks => by simp
  | a :: zs, ks => by
    rw [List.foldl_cons, fold_mem z zs]
    unfold addK
    split
    · rename_i h
      constructor
      · rintro (q | q)
        · exact .inl q
        · exact .inr (by simp [q])
      · rintro (q | q)
        · exact .inl q
        · simp at q
          rcases q with rfl | q
          · exact .inl h
          · exact .inr q
    · simp [or_assoc]
theorem keysOf_mem (zs : List Int) (z : Int) : z ∈ keysOf zs ↔ z ∈ zs := by
  unfold keysOf; rw [fold_mem]; simp
theorem fold_len (zs : List Int) : ∀ ks : List Int, ks.Nodup → (zs.foldl addK ks).length ≤ ks.length + zs.length ∧ ((zs.foldl addK ks).length = ks.length + zs.length ↔ (ks ++ zs).Nodup) := by
  induction zs with
  | nil => intro ks h; simp [h]
  | cons a zs ih =>
    intro ks h
    rw [List.foldl_cons]
    by_cases hm : a ∈ ks
    · have e : addK ks a = ks := by unfold addK; rw [if_pos hm]
      rw [e]
      have := ih ks h
      refine ⟨by simp; omega, ?_⟩
      constructor
      · intro q; simp at q; omega
      · intro q
        exfalso
        rw [List.nodup_append] at q
        exact q.2.2 a hm a (by simp) rfl
    · have e : addK ks a = ks ++ [a] := by unfold addK; rw [if_neg hm]
      have hn : (ks ++ [a]).Nodup := by rw [List.nodup_append]; exact ⟨h, by simp, fun x hx y hy q => by simp at hy; subst hy; subst q; exact hm hx⟩
      rw [e]
      have := ih (ks ++ [a]) hn
      simp only [List.length_append, List.length_cons, List.length_nil, List.append_assoc, List.cons_append, List.nil_append] at this ⊢
      refine ⟨by omega, ?_⟩
      rw [← this.2]
      constructor <;> intro q <;> omega
theorem keysOf_len (zs : List Int) : (keysOf zs).length ≤ zs.length ∧ ((keysOf zs).length = zs.length ↔ zs.Nodup) := by
  have := fold_len zs [] (by simp)
  simpa [keysOf] using this
end Go.Proofs.Ytcchhbkbnbphhaa

/- Digits of numbers, as lists of bytes. Nothing here walks. -/
namespace Go.Proofs.Ytcchhbkbnbphhaa

def dg (n : Nat) : UInt8 := UInt8.ofNat (48 + n % 10)
def digs : Nat → Nat → List UInt8
  | 0, _ => []
  | w + 1, n => digs w (n / 10) ++ [dg n]
theorem digs_len : ∀ w n, (digs w n).length = w
  | 0, _ => rfl
  | w + 1, n => by simp [digs, digs_len w]
theorem digs_front : ∀ w n, digs (w + 1) n = dg (n / 10 ^ w) :: digs w n
  | 0, n => by simp [digs]
  | w + 1, n => by
    rw [digs, digs_front w (n / 10), digs, Nat.div_div_eq_div_mul, Nat.pow_succ, Nat.mul_comm (10 ^ w) 10]
    rfl
def decF : Nat → Nat → List UInt8
  | 0, _ => []
  | f + 1, n => if n < 10 then [dg n] else decF f (n / 10) ++ [dg n]
theorem digs_zero : ∀ w, digs w 0 = List.replicate w 48
  | 0 => rfl
  | w + 1 => by rw [digs, digs_zero w]; rw [List.replicate_succ']; rfl
theorem decF_len : ∀ f n, (decF f n).length ≤ f
  | 0, _ => by simp [decF]
  | f + 1, n => by
    rw [decF]
    split
    · simp
    · have := decF_len f (n / 10)
      simp; omega
theorem pad_dec : ∀ f n, n < 10 ^ (f + 1) → List.replicate (f + 1 - (decF (f + 1) n).length) 48 ++ decF (f + 1) n = digs (f + 1) n
  | f, n, h => by
    rw [decF, digs]
    by_cases hn : n < 10
    · rw [if_pos hn]
      rw [show n / 10 = 0 by omega, digs_zero]
      simp
    · rw [if_neg hn]
      match f with
      | 0 => exact absurd h (by simp; omega)
      | f + 1 =>
        have ih := pad_dec f (n / 10) (by rw [Nat.pow_succ] at h; omega)
        rw [← ih]
        have := decF_len (f + 1) (n / 10)
        simp only [List.length_append, List.length_cons, List.length_nil, List.append_assoc]
        rw [show f + 1 + 1 - ((decF (f + 1) (n / 10)).length + (0 + 1)) = f + 1 - (decF (f + 1) (n / 10)).length by omega]
def bs (l : List UInt8) : ByteArray := ⟨l.toArray⟩
theorem bs_app (a b : List UInt8) : bs a ++ bs b = bs (a ++ b) := by
  apply ByteArray.ext
  simp [bs]
theorem bs_size (a : List UInt8) : (bs a).size = a.length := rfl
theorem dg_nat (n : Nat) : (dg n).toNat = 48 + n % 10 := by
  unfold dg
  rw [UInt8.toNat_ofNat']; omega
end Go.Proofs.Ytcchhbkbnbphhaa

/- A part of a text, as a list. -/
namespace Go.Proofs.Ytcchhbkbnbphhaa
theorem ext_list (t : ByteArray) (i j : Nat) : (t.extract i j).data.toList = (t.data.toList.drop i).take (j - i) := by
  rw [ByteArray.data_extract, Array.toList_extract, List.extract_eq_take_drop]
end Go.Proofs.Ytcchhbkbnbphhaa

/- Contracts of l01Read and of both ReadDisk. -/
namespace Go.Proofs.Ytcchhbkbnbphhaa
open Go.RowKit

def down (ws : List (Int × ByteArray)) (at_ : Int) : Nat → Option ByteArray
  | 0 => none
  | k + 1 => if (ws.getD k (0, ByteArray.empty)).1 = at_ then some (ws.getD k (0, ByteArray.empty)).2 else down ws at_ k
def readS (ss : List ByteArray) (ws : List (Int × ByteArray)) (at_ : Int) : ByteArray :=
  match down ws at_ ws.length with
  | some s => s
  | none => ss.getD at_.toNat ByteArray.empty
theorem readS_hit {ss : List ByteArray} {ws : List (Int × ByteArray)} {at_ : Int} {m : Nat} {s : ByteArray} (hm : ws.length = m) (h : down ws at_ m = some s) : readS ss ws at_ = s := by unfold readS; rw [hm, h]
theorem readS_miss {ss : List ByteArray} {ws : List (Int × ByteArray)} {at_ : Int} {m : Nat} (hm : ws.length = m) (h : down ws at_ m = none) : readS ss ws at_ = ss.getD at_.toNat ByteArray.empty := by unfold readS; rw [hm, h]
theorem down_step (ws : List (Int × ByteArray)) (at_ : Int) (j : Nat) : down ws at_ ((j : Int) + 1).toNat = if (ws.getD j (0, ByteArray.empty)).1 = at_ then some (ws.getD j (0, ByteArray.empty)).2 else down ws at_ j := by
  rw [show ((j : Int) + 1).toNat = j + 1 by omega]; rfl

theorem ret_str {a b : ByteArray} (h : a = b) : Ending.returned (.string a) = .returned (.string b) := by rw [h]
set_option maxRecDepth 100000 in
set_option maxHeartbeats 2000000 in
theorem l01Read (A C : Option Addr) (n c m d : Nat) (ss : List ByteArray) (ws : List (Int × ByteArray)) (k : Nat) (w : World) (hl : ss.length = n) (hm : ws.length = m) (_hn : n ≤ maxLen) (hmm : m ≤ maxLen) (h : StrL w A ss) (g : WrL w C ws) (hk : k < n) :
    Calls Try.prog 78 #[.agg #[.slice A n c, .slice C m d], .int .i64 k] w fun e w' => e = .returned (.string (readS ss ws k)) ∧ Below w.heap.size w w' := by
  unfold maxLen at hmm
  have hb0 : Below w.heap.size w (w.alloc (.cells #[.slice A n c, .slice C m d] 26)) := (Below.refl _ _).alloc (Nat.le_refl _) _
  have HL := Lib.hid hl
  have HM := Lib.hid hm
  have H := Lib.hid (h.below hb0)
  have G := Lib.hid (g.below hb0)
  clear hl hm h g
  have hk' : (k : Int) < (n : Int) := by omega
  go_enter Try.func78, Try.ntmps78
  go_wp2
  go_loop [5] (fun i => ∃ z : Int, i = .int .i64 z ∧ -1 ≤ z ∧ z < m ∧ Hid (down ws k m = down ws k (z + 1).toNat)) (fun i => (intOf i + 1).toNat)
  case atStart => exact ⟨_, rfl, by omega, by omega, Lib.hid (by rw [show ((m : Int) - 1 + 1).toNat = m by omega])⟩
  case round =>
    obtain ⟨z, rfl, hz1, hz2, HT⟩ := hrel
    by_cases hz : 0 ≤ z
    · obtain ⟨j, rfl⟩ : ∃ j : Nat, z = j := ⟨z.toNat, by omega⟩
      obtain ⟨b, off, rfl, hc, hd⟩ := G.out j (by rw [HM.out]; omega)
      have HS := Lib.hid (down_step ws k j)
      generalize ws.getD j (0, ByteArray.empty) = x at hc hd HS
      obtain ⟨x1, x2⟩ := x
      simp only at hc hd
      have hi : (j : Int) < (m : Int) := hz2
      by_cases hE : x1 = (k : Int)
      · have hq : (x1 == (k : Int)) = true := by simp [hE]
        have HE := Lib.hid hE
        clear hE
        go_wp2
        go_ret
        exact ⟨ret_str (readS_hit HM.out (by rw [HT.out, HS.out]; simp [HE.out])).symm, hb0⟩
      · have hq : (x1 == (k : Int)) = false := by simp [hE]
        have HE := Lib.hid hE
        clear hE
        go_wp2
        go_round
        case rel => exact ⟨_, rfl, by omega, by omega, Lib.hid (by rw [HT.out, HS.out, if_neg HE.out, show ((j : Int) - 1 + 1).toNat = j by omega])⟩
        case measure => simp [intOf]
    · obtain ⟨b, off, rfl, hc⟩ := H.out k (by rw [HL.out]; exact hk)
      have HF := Lib.hid (readS_miss (ss := ss) HM.out (by rw [HT.out, show (z + 1).toNat = 0 by omega]; rfl))
      have hz' : z < 0 := by omega
      go_wp2
      go_ret
      exact ⟨ret_str (by rw [HF.out]; rfl), hb0⟩

set_option maxRecDepth 100000 in
set_option maxHeartbeats 2000000 in
theorem content (A C : Option Addr) (n c m d : Nat) (ss : List ByteArray) (ws : List (Int × ByteArray)) (k : Nat) (w : World) (hl : ss.length = n) (hm : ws.length = m) (_hn : n ≤ maxLen) (hmm : m ≤ maxLen) (h : StrL w A ss) (g : WrL w C ws) (hk : k < n) :
    Calls Try.prog 59 #[.agg #[.slice A n c, .slice C m d], .int .i64 k] w fun e w' => e = .returned (.string (readS ss ws k)) ∧ Below w.heap.size w w' := by
  unfold maxLen at hmm
  have hb0 : Below w.heap.size w (w.alloc (.cells #[.slice A n c, .slice C m d] 26)) := (Below.refl _ _).alloc (Nat.le_refl _) _
  have HL := Lib.hid hl
  have HM := Lib.hid hm
  have H := Lib.hid (h.below hb0)
  have G := Lib.hid (g.below hb0)
  clear hl hm h g
  have hk' : (k : Int) < (n : Int) := by omega
  go_enter Try.func59, Try.ntmps59
  go_wp2
  go_loop [5] (fun i => ∃ z : Int, i = .int .i64 z ∧ -1 ≤ z ∧ z < m ∧ Hid (down ws k m = down ws k (z + 1).toNat)) (fun i => (intOf i + 1).toNat)
  case atStart => exact ⟨_, rfl, by omega, by omega, Lib.hid (by rw [show ((m : Int) - 1 + 1).toNat = m by omega])⟩
  case round =>
    obtain ⟨z, rfl, hz1, hz2, HT⟩ := hrel
    by_cases hz : 0 ≤ z
    · obtain ⟨j, rfl⟩ : ∃ j : Nat, z = j := ⟨z.toNat, by omega⟩
      obtain ⟨b, off, rfl, hc, hd⟩ := G.out j (by rw [HM.out]; omega)
      have HS := Lib.hid (down_step ws k j)
      generalize ws.getD j (0, ByteArray.empty) = x at hc hd HS
      obtain ⟨x1, x2⟩ := x
      simp only at hc hd
      have hi : (j : Int) < (m : Int) := hz2
      by_cases hE : x1 = (k : Int)
      · have hq : (x1 == (k : Int)) = true := by simp [hE]
        have HE := Lib.hid hE
        clear hE
        go_wp2
        go_ret
        exact ⟨ret_str (readS_hit HM.out (by rw [HT.out, HS.out]; simp [HE.out])).symm, hb0⟩
      · have hq : (x1 == (k : Int)) = false := by simp [hE]
        have HE := Lib.hid hE
        clear hE
        go_wp2
        go_round
        case rel => exact ⟨_, rfl, by omega, by omega, Lib.hid (by rw [HT.out, HS.out, if_neg HE.out, show ((j : Int) - 1 + 1).toNat = j by omega])⟩
        case measure => simp [intOf]
    · obtain ⟨b, off, rfl, hc⟩ := H.out k (by rw [HL.out]; exact hk)
      have HF := Lib.hid (readS_miss (ss := ss) HM.out (by rw [HT.out, show (z + 1).toNat = 0 by omega]; rfl))
      have hz' : z < 0 := by omega
      go_wp2
      go_ret
      exact ⟨ret_str (by rw [HF.out]; rfl), hb0⟩

theorem okDisk_len {ss : List ByteArray} {ws : List (Int × ByteArray)} (h : okDisk ss ws = true) : ss.length = 48 ∧ ws.length ≤ 60 := by unfold okDisk at h; simp at h; exact h.1

end Go.Proofs.Ytcchhbkbnbphhaa

/- Contracts of checkPages and l02Pages. -/
namespace Go.Proofs.Ytcchhbkbnbphhaa
open Go.RowKit

def pagesC (ss : List ByteArray) : Int := if 4096 < ss.length then 2 else if ss.length ≠ 17 then 8 else if ss.all okSt = true then 0 else 8

set_option maxRecDepth 100000 in
set_option maxHeartbeats 1000000 in
theorem checkPages (A : Option Addr) (n c : Nat) (ss : List ByteArray) (w : World) (hl : ss.length = n) (hn : n ≤ maxLen) (h : StrL w A ss) (fs : FitS ss) :
    Calls Try.prog 49 #[.slice A n c] w fun e w' => e = .returned (.int .i64 (pagesC ss)) ∧ w = w' := by
  unfold maxLen at hn
  by_cases h1 : 4096 < n
  · have HV : Hid (pagesC ss = 2) := Lib.hid (by unfold pagesC; rw [if_pos (by rw [hl]; exact h1)])
    have h1' : (4096 : Int) < (n : Int) := by omega
    clear h fs hl h1
    go_enter Try.func49, Try.ntmps49
    go_wp2
    go_ret
    exact ⟨ret_int HV.out.symm, rfl⟩
  have h1' : ¬ (4096 : Int) < (n : Int) := by omega
  by_cases h2 : n = 17
  · have h2b : ((n : Int) != 17) = false := by rw [h2]; rfl
    have HV : Hid (pagesC ss = if ss.all okSt = true then 0 else 8) := Lib.hid (by unfold pagesC; rw [if_neg (by rw [hl]; exact h1), if_neg (by rw [hl, h2]; simp)])
    have HL := Lib.hid hl
    have H := Lib.hid h
    have HF := Lib.hid fs
    have h17 : n ≤ 17 := by omega
    clear hl h fs h1 h2
    go_enter Try.func49, Try.ntmps49
    go_wp2
    go_loop [13] (fun i => ∃ k : Nat, k ≤ n ∧ i = .int .i64 k ∧ Hid (ss.all okSt = (ss.drop k).all okSt)) (fun i => n - (intOf i).toNat)
    case atStart => exact ⟨0, Nat.zero_le _, rfl, Lib.hid rfl⟩
    case round =>
      obtain ⟨k, hk, rfl, HT⟩ := hrel
      by_cases hlt : k < n
      · obtain ⟨b, off, rfl, hc⟩ := H.out k (by rw [HL.out]; exact hlt)
        have HS := Lib.hid (all_step okSt ss ByteArray.empty k (by rw [HL.out]; exact hlt))
        have hx := HF.out.at_ k (by rw [HL.out]; exact hlt)
        generalize ss.getD k ByteArray.empty = x at hc HS hx
        unfold maxLen at hx
        have hi : (k : Int) < (n : Int) := by omega
        by_cases hE : 100 < x.size
        · have hE' : (100 : Int) < (x.size : Int) := by omega
          have HE : Hid (okSt x = false) := Lib.hid (by unfold okSt; exact decide_eq_false (by omega))
          clear hE
          go_wp2
          go_ret
          exact ⟨ret_int (by rw [HV.out, HT.out, HS.out, HE.out]; rfl), rfl⟩
        · have hE' : ¬ (100 : Int) < (x.size : Int) := by omega
          have HE : Hid (okSt x = true) := Lib.hid (by unfold okSt; exact decide_eq_true (by omega))
          clear hE
          go_wp2
          go_round
          case rel => exact ⟨k + 1, by omega, by go_num, Lib.hid (by rw [HT.out, HS.out, HE.out]; rfl)⟩
          case measure => simp [intOf]; omega
      · go_wp2
        go_ret
        exact ⟨ret_int (by rw [HV.out, HT.out, all_end _ _ _ (by rw [HL.out]; omega)]; rfl), rfl⟩
  · have h2b : ((n : Int) != 17) = true := by simp; omega
    have HV : Hid (pagesC ss = 8) := Lib.hid (by unfold pagesC; rw [if_neg (by rw [hl]; exact h1), if_pos (by rw [hl]; exact h2)])
    clear h fs hl h1
    go_enter Try.func49, Try.ntmps49
    go_wp2
    go_ret
    exact ⟨ret_int HV.out.symm, rfl⟩

set_option maxRecDepth 100000 in
set_option maxHeartbeats 1000000 in
theorem l02Pages (A : Option Addr) (n c : Nat) (ss : List ByteArray) (w : World) (hl : ss.length = n) (hn : n ≤ maxLen) (h : StrL w A ss) (fs : FitS ss) :
    Calls Try.prog 66 #[.slice A n c] w fun e w' => e = .returned (.int .i64 (pagesC ss)) ∧ w = w' := by
  unfold maxLen at hn
  by_cases h1 : 4096 < n
  · have HV : Hid (pagesC ss = 2) := Lib.hid (by unfold pagesC; rw [if_pos (by rw [hl]; exact h1)])
    have h1' : (4096 : Int) < (n : Int) := by omega
    clear h fs hl h1
    go_enter Try.func66, Try.ntmps66
    go_wp2
    go_ret
    exact ⟨ret_int HV.out.symm, rfl⟩
  have h1' : ¬ (4096 : Int) < (n : Int) := by omega
  by_cases h2 : n = 17
  · have h2b : ((n : Int) != 17) = false := by rw [h2]; rfl
    have HV : Hid (pagesC ss = if ss.all okSt = true then 0 else 8) := Lib.hid (by unfold pagesC; rw [if_neg (by rw [hl]; exact h1), if_neg (by rw [hl, h2]; simp)])
    have HL := Lib.hid hl
    have H := Lib.hid h
    have HF := Lib.hid fs
    have h17 : n ≤ 17 := by omega
    clear hl h fs h1 h2
    go_enter Try.func66, Try.ntmps66
    go_wp2
    go_loop [3] (fun i => ∃ k : Nat, k ≤ n ∧ i = .int .i64 k ∧ Hid (ss.all okSt = (ss.drop k).all okSt)) (fun i => n - (intOf i).toNat)
    case atStart => exact ⟨0, Nat.zero_le _, rfl, Lib.hid rfl⟩
    case round =>
      obtain ⟨k, hk, rfl, HT⟩ := hrel
      by_cases hlt : k < n
      · obtain ⟨b, off, rfl, hc⟩ := H.out k (by rw [HL.out]; exact hlt)
        have HS := Lib.hid (all_step okSt ss ByteArray.empty k (by rw [HL.out]; exact hlt))
        have hx := HF.out.at_ k (by rw [HL.out]; exact hlt)
        generalize ss.getD k ByteArray.empty = x at hc HS hx
        unfold maxLen at hx
        have hi : (k : Int) < (n : Int) := by omega
        by_cases hE : 100 < x.size
        · have hE' : (100 : Int) < (x.size : Int) := by omega
          have HE : Hid (okSt x = false) := Lib.hid (by unfold okSt; exact decide_eq_false (by omega))
          clear hE
          go_wp2
          go_ret
          exact ⟨ret_int (by rw [HV.out, HT.out, HS.out, HE.out]; rfl), rfl⟩
        · have hE' : ¬ (100 : Int) < (x.size : Int) := by omega
          have HE : Hid (okSt x = true) := Lib.hid (by unfold okSt; exact decide_eq_true (by omega))
          clear hE
          go_wp2
          go_round
          case rel => exact ⟨k + 1, by omega, by go_num, Lib.hid (by rw [HT.out, HS.out, HE.out]; rfl)⟩
          case measure => simp [intOf]; omega
      · go_wp2
        go_ret
        exact ⟨ret_int (by rw [HV.out, HT.out, all_end _ _ _ (by rw [HL.out]; omega)]; rfl), rfl⟩
  · have h2b : ((n : Int) != 17) = true := by simp; omega
    have HV : Hid (pagesC ss = 8) := Lib.hid (by unfold pagesC; rw [if_neg (by rw [hl]; exact h1), if_pos (by rw [hl]; exact h2)])
    clear h fs hl h1
    go_enter Try.func66, Try.ntmps66
    go_wp2
    go_ret
    exact ⟨ret_int HV.out.symm, rfl⟩
end Go.Proofs.Ytcchhbkbnbphhaa

/- The codes that come first: impl.checkCommit, spec.l02Ask. -/
namespace Go.Proofs.Ytcchhbkbnbphhaa
open Go.RowKit

def askC (ps ss : List ByteArray) (ws : List (Int × ByteArray)) : Int := if pagesC ps ≠ 0 then pagesC ps else if okDisk ss ws = true ∧ ws.length = 0 then 0 else 1

set_option maxRecDepth 100000 in
set_option maxHeartbeats 1000000 in
theorem checkCommit (A C P : Option Addr) (n c m d k f : Nat) (ss ps : List ByteArray) (ws : List (Int × ByteArray)) (w : World) (hl : ss.length = n) (hm : ws.length = m) (hk : ps.length = k) (hn : n ≤ maxLen) (hmm : m ≤ maxLen) (hkk : k ≤ maxLen) (h : StrL w A ss) (g : WrL w C ws) (i : StrL w P ps) (fs : FitS ss) (fw : FitW ws) (fp : FitS ps) :
    Calls Try.prog 31 #[.agg #[.slice A n c, .slice C m d], .slice P k f] w fun e w' => e = .returned (.int .i64 (askC ps ss ws)) ∧ Below w.heap.size w w' := by
  obtain ⟨W0, hW0⟩ : ∃ W0, W0 = w.alloc (.cells #[.slice A n c, .slice C m d] 26) := ⟨_, rfl⟩
  have hb0 : Below w.heap.size w W0 := by rw [hW0]; exact alloc_below _ _
  have X0 : Box W0 w.heap.size 26 #[.slice A n c, .slice C m d] := by rw [hW0]; exact Box.new _ _ _
  have HP := Lib.hid (checkPages P k f ps W0 hk hkk (i.below hb0) fp)
  have HV := Lib.hid (diskValid A C n c m d ss ws W0 hl hm hn hmm (h.below hb0) (g.below hb0) fs fw)
  have HA : Hid (askC ps ss ws = if pagesC ps ≠ 0 then pagesC ps else if okDisk ss ws = true ∧ m = 0 then 0 else 1) := Lib.hid (by unfold askC; rw [hm])
  have HW0 := Lib.hid hW0
  generalize pagesC ps = z at HP HA
  generalize okDisk ss ws = q at HV HA
  have x0 := X0.cell 0 rfl
  have x1 := X0.cell 1 rfl
  have HX := Lib.hid X0
  clear hl hm hk hn hmm hkk h g i fs fw fp hW0 X0
  go_enter Try.func31, Try.ntmps31
  go_wp2_with fail
  rw [← HW0.out]
  refine HP.out.mono ?_
  rintro e w1 ⟨rfl, rfl⟩
  by_cases hz : z = 0
  · subst hz
    go_wp2_with fail
    refine HV.out.mono ?_
    rintro e w2 ⟨rfl, hb2⟩
    have X2 := HX.out.step hb2
    have y1 := X2.cell 1 rfl
    have HB := Lib.hid (bt hb0 hb2)
    clear X2 hb2 hb0 x0 x1
    cases q
    · go_wp2
      go_ret
      exact ⟨by rw [HA.out]; rfl, HB.out⟩
    · by_cases hm0 : m = 0
      · subst hm0
        go_wp2
        go_ret
        exact ⟨by rw [HA.out]; rfl, HB.out⟩
      · have hm1 : ((m : Int) != 0) = true := by simp [bne]; omega
        have HM := Lib.hid hm0
        clear hm0
        go_wp2
        go_ret
        exact ⟨by rw [HA.out, if_neg (by simp), if_neg (fun q => HM.out q.2)]; rfl, HB.out⟩
  · have HZ := Lib.hid hz
    have hzb : (z != 0) = true := by simp [bne]; exact hz
    clear hz
    go_wp2
    go_ret
    exact ⟨by rw [HA.out, if_pos HZ.out]; rfl, hb0⟩

set_option maxRecDepth 100000 in
set_option maxHeartbeats 1000000 in
theorem specAsk (A C P : Option Addr) (n c m d k f : Nat) (ss ps : List ByteArray) (ws : List (Int × ByteArray)) (w : World) (hl : ss.length = n) (hm : ws.length = m) (hk : ps.length = k) (hn : n ≤ maxLen) (hmm : m ≤ maxLen) (hkk : k ≤ maxLen) (h : StrL w A ss) (g : WrL w C ws) (i : StrL w P ps) (fs : FitS ss) (fw : FitW ws) (fp : FitS ps) :
    Calls Try.prog 36 #[.agg #[.slice A n c, .slice C m d], .slice P k f] w fun e w' => e = .returned (.int .i64 (askC ps ss ws)) ∧ Below w.heap.size w w' := by
  obtain ⟨W0, hW0⟩ : ∃ W0, W0 = w.alloc (.cells #[.slice A n c, .slice C m d] 26) := ⟨_, rfl⟩
  have hb0 : Below w.heap.size w W0 := by rw [hW0]; exact alloc_below _ _
  have X0 : Box W0 w.heap.size 26 #[.slice A n c, .slice C m d] := by rw [hW0]; exact Box.new _ _ _
  have HP := Lib.hid (l02Pages P k f ps W0 hk hkk (i.below hb0) fp)
  have HV := Lib.hid (specDiskOK A C n c m d ss ws W0 hl hm hn hmm (h.below hb0) (g.below hb0) fs fw)
  have HA : Hid (askC ps ss ws = if pagesC ps ≠ 0 then pagesC ps else if okDisk ss ws = true ∧ m = 0 then 0 else 1) := Lib.hid (by unfold askC; rw [hm])
  have HW0 := Lib.hid hW0
  generalize pagesC ps = z at HP HA
  generalize okDisk ss ws = q at HV HA
  have x0 := X0.cell 0 rfl
  have x1 := X0.cell 1 rfl
  have HX := Lib.hid X0
  clear hl hm hk hn hmm hkk h g i fs fw fp hW0 X0
  go_enter Try.func36, Try.ntmps36
  go_wp2_with fail
  rw [← HW0.out]
  refine HP.out.mono ?_
  rintro e w1 ⟨rfl, rfl⟩
  by_cases hz : z = 0
  · subst hz
    go_wp2_with fail
    refine HV.out.mono ?_
    rintro e w2 ⟨rfl, hb2⟩
    have X2 := HX.out.step hb2
    have y1 := X2.cell 1 rfl
    have HB := Lib.hid (bt hb0 hb2)
    clear X2 hb2 hb0 x0 x1
    cases q
    · go_wp2
      go_ret
      exact ⟨by rw [HA.out]; rfl, HB.out⟩
    · by_cases hm0 : m = 0
      · subst hm0
        go_wp2
        go_ret
        exact ⟨by rw [HA.out]; rfl, HB.out⟩
      · have hm1 : (0 : Int) < (m : Int) := by omega
        have HM := Lib.hid hm0
        clear hm0
        go_wp2
        go_ret
        exact ⟨by rw [HA.out, if_neg (by simp), if_neg (fun q => HM.out q.2)]; rfl, HB.out⟩
  · have HZ := Lib.hid hz
    have hzb : (z != 0) = true := by simp [bne]; exact hz
    clear hz
    go_wp2
    go_ret
    exact ⟨by rw [HA.out, if_pos HZ.out]; rfl, hb0⟩
end Go.Proofs.Ytcchhbkbnbphhaa

/- Contracts of both NewDisk. -/
namespace Go.Proofs.Ytcchhbkbnbphhaa
open Go.RowKit

def zeros48 : Array Value := madeCells #[.string ByteArray.empty] 48
def newSs : List ByteArray := List.replicate 48 ByteArray.empty
set_option maxRecDepth 100000 in
theorem make48 (W : World) : (Instr.makeSlice 23 (.int .i64 48) (.int .i64 48)).run Try.prog W = .ok (.slice (some ⟨W.heap.size, 0, none⟩) 48 48) (W.alloc (.cells zeros48 9)) :=
  run_make_row' (P := Try.prog) 23 9 (.string ByteArray.empty) 16 Try.underlying23 infoS rfl .i64 .i64 48 (by omega) (by omega) W
theorem newSs_at (i : Nat) (h : i < 48) : newSs.getD i ByteArray.empty = ByteArray.empty := by
  unfold newSs
  rw [List.getD_eq_getElem?_getD, List.getElem?_replicate, if_pos h]; rfl
theorem newSs_len : newSs.length = 48 := by unfold newSs; rw [List.length_replicate]
theorem row48 (W : World) : (W.alloc (.cells zeros48 9)).rowIs W.heap.size 9 48 (fun i => .string (newSs.getD i ByteArray.empty)) :=
  (World.rowIs_made W (.string ByteArray.empty) 48 9).congr (fun i hi => by rw [newSs_at i hi])

set_option maxRecDepth 100000 in
theorem specNew (w : World) : Calls Try.prog 81 #[] w (GivesDisk newSs [] w) := by
  have hmk := make48
  go_enter Try.func81, Try.ntmps81
  go_wp2
  refine bodyPost_ret (v := .agg #[.slice (some ⟨w.heap.size + 1, 0, none⟩) 48 48, .slice (some ⟨w.heap.size + 1 + 1, 0, none⟩) 0 0]) (by simp [results, Try.results81, go_sem]) rfl ?_
  refine ⟨_, _, _, _, _, _, rfl, Lib.hid newSs_len, Lib.hid rfl, Lib.hid ?_, Lib.hid (.inl rfl), (((Below.refl _ _).alloc (Nat.le_refl _) _).alloc (by simp) _).alloc (by simp; omega) _⟩
  have hr := (row48 (w.alloc (.cells #[.slice (some ⟨w.heap.size + 1, 0, none⟩) 48 48, .slice (some ⟨w.heap.size + 1 + 1, 0, none⟩) 0 0] 26))).alloc (.cells #[] 67)
  rw [World.size_alloc] at hr
  exact own_of_rowS newSs_len hr (by omega) (by first | (simp; done) | (simp; omega))
end Go.Proofs.Ytcchhbkbnbphhaa
