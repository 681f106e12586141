/- Texts of this claim, one behind the other: App, OpLen, OpDec, OpEnc, Root, Sets, RootOk, NumWalk, ReadDisk, DigWalk, Voc, Txt2, OpEnc2, Wrd, OpDec2, Settle. -/
import Derived.Test.YtcchhbkbnbphhaaDoorRows
import Derived.Laws.AppendOwn
import Derived.OwnWalk
import Derived.Maps.Own
import Derived.IntWalk
import Derived.Deep.RegionHeld3
import Derived.Laws.IdiomStrings
import Derived.Deep.DrawnRows
import Derived.Laws.BitsLemmas
import Derived.Laws.CopyOwn
import Derived.Test.YtcchhbkbnbphhaaDoorM1
/- Appending one element to a slice of the call's own; what such a slice is good for. -/
namespace Go.Proofs.YtcchhbkbnbphhaaDoor
open Go.RowKit

structure Elem (P : Program) (e : TypeId) (z : Value) (size bytes : Nat) : Prop where
  info : ∃ i : TypeInfo, P.info? e = some i ∧ i.zero = some z ∧ i.size = size ∧ i.bytes = bytes
  cells : z.cells.size = size
  pos : 0 < size

abbrev RowV (w : World) (base : Nat) (e : TypeId) (size : Nat) (v : Value) (n : Nat) (xs : List Value) : Prop := w.ownsRow base e size v n xs

theorem rowv_ge {w : World} {base n : Nat} {e : TypeId} {size : Nat} {v : Value} {xs : List Value} (h : w.ownsRow base e size v n xs) : ∀ k, v.ownBlock = some k → base ≤ k := by
  intro k hk
  rcases h.2 with ⟨rfl, _⟩ | ⟨g, cap, cur, rfl, q1, q2⟩
  · simp [Value.ownBlock] at hk
  · simp [Value.ownBlock] at hk; omega
theorem rowv_keep {w w' : World} {base n : Nat} {e : TypeId} {size : Nat} {v : Value} {xs : List Value} (h : w.ownsRow base e size v n xs) (hk : ∀ k, base ≤ k → k < w.heap.size → w'.heap[k]? = w.heap[k]?) : w'.ownsRow base e size v n xs := by
  obtain ⟨h1, h0 | ⟨g, cap, cur, rfl, q1, q2, q3⟩⟩ := h
  · exact ⟨h1, .inl h0⟩
  · refine ⟨h1, .inr ⟨g, cap, cur, rfl, q1, ?_, q3⟩⟩
    have hlt : g < w.heap.size := by
      rcases Nat.lt_or_ge g w.heap.size with hlt | hge
      · exact hlt
      · rw [Array.getElem?_eq_none hge] at q2; cases q2
    rw [hk g q1 hlt]; exact q2
theorem rowv_below {w w' : World} {base n : Nat} {e : TypeId} {size : Nat} {v : Value} {xs : List Value} (h : w.ownsRow base e size v n xs) (hb : Below w.heap.size w w') : w'.ownsRow base e size v n xs := rowv_keep h (fun k _ hk => hb.block k hk)
theorem rowv_nil (w : World) (base : Nat) (e : TypeId) (size : Nat) : w.ownsRow base e size (.slice none 0 0) 0 [] := World.ownsRow_nil w base e size
theorem rowv_form {w : World} {base n : Nat} {e : TypeId} {size : Nat} {v : Value} {xs : List Value} (h : w.ownsRow base e size v n xs) : ∃ A cap, v = .slice A n cap ∧ n ≤ cap := by
  rcases h.2 with ⟨rfl, rfl⟩ | ⟨g, cap, cur, rfl, _, _, q, _⟩
  · exact ⟨none, 0, rfl, Nat.le_refl _⟩
  · exact ⟨_, cap, rfl, q⟩
theorem rowv_empty {w : World} {base g : Nat} {t : TypeId} {size : Nat} (hb : base ≤ g) (hg : Box w g t #[]) : w.ownsRow base t size (.slice (some ⟨g, 0, none⟩) 0 0) 0 [] :=
  ⟨by simp, .inr ⟨g, 0, #[], rfl, hb, hg, Nat.le_refl _, Nat.zero_le _, by simp, by simp⟩⟩

theorem wpList_app_one {P : Program} {w : World} {ops : Array Oper} {rest : List Oper} {o : Oper} {a : Act} {Q : Exit → Act → World → Prop} (hgd : o.guard = none) (s x : Operand) (t e : TypeId)
    (ho : o.op = .call { callee := .builtin .append, args := #[s, x], argTypes := #[t, t] }) (z : Value) (size bytes : Nat) (E : Elem P e z size bytes) (ht : P.underlying t = some (.slice e))
    (base : Nat) (v : Value) (n : Nat) (xs : List Value) (hs : a.eval s = v) (hown : w.ownsRow base e size v n xs)
    (b c : Nat) (hx : a.eval x = .slice (some ⟨b, 0, none⟩) 1 c) (news : List Value) (hl : news.length = size) (hnews : ∀ j u, news[j]? = some u → w.cell? ⟨b, j, none⟩ = some u) (h1 : ∀ u ∈ news, u.oneCell' = true)
    (h63 : n + 1 ≤ maxLen) (hby : (n + 1) * bytes ≤ 140737488355328) (hbase : base ≤ w.heap.size)
    (hK : ∀ A cap w', w'.ownsRow base e size (.slice A (n + 1) cap) (n + 1) (xs ++ news) → n + 1 ≤ cap → w.grownBy w' v.ownBlock → Below base w w' → wpList P ops Q rest (a.put o.dst (.slice A (n + 1) cap)) w') : wpList P ops Q (o :: rest) a w := by
  obtain ⟨i, hi, hz, hsz, hb⟩ := E.info
  refine wpList_append_own w hgd s x t ho base e i z size bytes ht hi hz hsz hb E.cells E.pos v n xs hs hown ⟨b, 0, none⟩ 1 c news hx (by rw [hl]; omega) (fun j u hj => ?_) h1 h63 hby hbase (fun v' w' h2 h3 _ => ?_)
  · have := hnews j u hj
    unfold Addr.add
    by_cases h0 : j = 0
    · subst h0; simpa using this
    · rw [if_neg h0]; simpa using this
  · obtain ⟨A, cap, rfl, hcap⟩ := rowv_form h2
    exact hK A cap w' h2 hcap h3 ((Below.refl base w).grown h3 hbase (rowv_ge hown))

theorem wpList_app_many {P : Program} {w : World} {ops : Array Oper} {rest : List Oper} {o : Oper} {a : Act} {Q : Exit → Act → World → Prop} (hgd : o.guard = none) (s x : Operand) (t e : TypeId)
    (ho : o.op = .call { callee := .builtin .append, args := #[s, x], argTypes := #[t, t] }) (z : Value) (size bytes : Nat) (E : Elem P e z size bytes) (ht : P.underlying t = some (.slice e))
    (base : Nat) (v : Value) (n : Nat) (xs : List Value) (hs : a.eval s = v) (hown : w.ownsRow base e size v n xs)
    (ad : Addr) (m c : Nat) (hx : a.eval x = .slice (some ad) m c) (news : List Value) (hl : news.length = m * size) (hnews : ∀ j u, news[j]? = some u → w.cell? (ad.add j) = some u) (h1 : ∀ u ∈ news, u.oneCell' = true)
    (h63 : n + m ≤ maxLen) (hby : (n + m) * bytes ≤ 140737488355328) (hbase : base ≤ w.heap.size)
    (hK : ∀ A cap w', w'.ownsRow base e size (.slice A (n + m) cap) (n + m) (xs ++ news) → n + m ≤ cap → w.grownBy w' v.ownBlock → Below base w w' → wpList P ops Q rest (a.put o.dst (.slice A (n + m) cap)) w') : wpList P ops Q (o :: rest) a w := by
  obtain ⟨i, hi, hz, hsz, hb⟩ := E.info
  refine wpList_append_own w hgd s x t ho base e i z size bytes ht hi hz hsz hb E.cells E.pos v n xs hs hown ad m c news hx hl hnews h1 h63 hby hbase (fun v' w' h2 h3 _ => ?_)
  obtain ⟨A, cap, rfl, hcap⟩ := rowv_form h2
  exact hK A cap w' h2 hcap h3 ((Below.refl base w).grown h3 hbase (rowv_ge hown))

theorem Box.grown {w w' : World} {b base n : Nat} {t e : TypeId} {cs : Array Value} {size : Nat} {v : Value} {xs : List Value} (h : Box w b t cs) (hr : w.ownsRow base e size v n xs) (ht : t ≠ e) (hg : w.grownBy w' v.ownBlock) : Box w' b t cs := by
  have hlt := h.lt
  refine (hg.block b hlt ?_).trans h
  rcases hr.2 with ⟨rfl, _⟩ | ⟨g, cap, cur, rfl, _, q2, _⟩
  · simp [Value.ownBlock]
  · simp only [Value.ownBlock, ne_eq, Option.some.injEq]
    rintro rfl
    unfold Box at h
    rw [h] at q2
    injection q2 with q2
    injection q2 with _ q3
    exact ht q3
theorem rowv_setBox {w : World} {base n b : Nat} {t e : TypeId} {cs : Array Value} {size : Nat} {v : Value} {xs : List Value} (h : w.ownsRow base e size v n xs) (X : Box w b t cs) (ht : t ≠ e) (i : Nat) (u : Value) : (w.setCell ⟨b, i, none⟩ u).ownsRow base e size v n xs := by
  obtain ⟨h1, h0 | ⟨g, cap, cur, rfl, q1, q2, q3⟩⟩ := h
  · exact ⟨h1, .inl h0⟩
  · refine ⟨h1, .inr ⟨g, cap, cur, rfl, q1, ?_, q3⟩⟩
    refine (Below.heap_setCell w ⟨b, i, none⟩ u g ?_).trans q2
    rintro rfl
    unfold Box at X
    rw [X] at q2
    injection q2 with q2
    injection q2 with _ q3
    exact ht q3
set_option maxRecDepth 100000 in
theorem elemInt : Elem Tryd.prog 3 (.int .i64 0) 1 8 := ⟨⟨_, rfl, rfl, rfl, rfl⟩, rfl, by decide⟩
set_option maxRecDepth 100000 in
theorem elemStr : Elem Tryd.prog 9 (.string ByteArray.empty) 1 16 := ⟨⟨_, rfl, rfl, rfl, rfl⟩, rfl, by decide⟩
def GroI (w : World) (base : Nat) (v : Value) (zs : List Int) : Prop := w.ownsRow base 3 1 v zs.length (zs.map (Value.int .i64))
def GroS (w : World) (base : Nat) (v : Value) (ss : List ByteArray) : Prop := w.ownsRow base 9 1 v ss.length (ss.map Value.string)
theorem GroI.own {w : World} {base lo : Nat} {A : Option Addr} {n c : Nat} {zs : List Int} (h : GroI w base (.slice A n c) zs) (hb : lo ≤ base) : OwnI w lo w.heap.size A zs := by
  obtain ⟨h1, ⟨h0, h2⟩ | ⟨g, cap, cur, hv, q1, q2, q3, q4, q5, q6⟩⟩ := h
  · exact .inl (List.eq_nil_of_length_eq_zero h2)
  · injection hv with hv1 hv2 hv3
    refine .inr ⟨g, cap, fun i => cur.getD i (.int .i64 0), hv1, by omega, (Array.getElem?_eq_some_iff.1 q2).1, q3, ⟨cur, q2, by omega, fun i hi => ?_⟩, fun i hi => ?_⟩
    · simp [Array.getElem?_eq_getElem (show i < cur.size by omega)]
    · have : (cur.toList.take (zs.length * 1))[i]? = (zs.map (Value.int .i64))[i]? := by rw [q6]
      rw [List.getElem?_take, if_pos (by omega), Array.getElem?_toList, List.getElem?_map, List.getElem?_eq_getElem hi] at this
      simp [this, List.getD_eq_getElem?_getD, List.getElem?_eq_getElem hi]
theorem GroS.own {w : World} {base lo : Nat} {A : Option Addr} {n c : Nat} {ss : List ByteArray} (h : GroS w base (.slice A n c) ss) (hb : lo ≤ base) : OwnS w lo w.heap.size A ss := by
  obtain ⟨h1, ⟨h0, h2⟩ | ⟨g, cap, cur, hv, q1, q2, q3, q4, q5, q6⟩⟩ := h
  · exact .inl (List.eq_nil_of_length_eq_zero h2)
  · injection hv with hv1 hv2 hv3
    refine .inr ⟨g, cap, fun i => cur.getD i (.int .i64 0), hv1, by omega, (Array.getElem?_eq_some_iff.1 q2).1, q3, ⟨cur, q2, by omega, fun i hi => ?_⟩, fun i hi => ?_⟩
    · simp [Array.getElem?_eq_getElem (show i < cur.size by omega)]
    · have : (cur.toList.take (ss.length * 1))[i]? = (ss.map Value.string)[i]? := by rw [q6]
      rw [List.getElem?_take, if_pos (by omega), Array.getElem?_toList, List.getElem?_map, List.getElem?_eq_getElem hi] at this
      simp [this, List.getD_eq_getElem?_getD, List.getElem?_eq_getElem hi]
theorem GroI.len {w : World} {base : Nat} {A : Option Addr} {n c : Nat} {zs : List Int} (h : GroI w base (.slice A n c) zs) : zs.length = n := by
  obtain ⟨A', cap, hv, _⟩ := rowv_form h
  injection hv with _ hv2 _; exact hv2.symm
theorem GroS.len {w : World} {base : Nat} {A : Option Addr} {n c : Nat} {ss : List ByteArray} (h : GroS w base (.slice A n c) ss) : ss.length = n := by
  obtain ⟨A', cap, hv, _⟩ := rowv_form h
  injection hv with _ hv2 _; exact hv2.symm
end Go.Proofs.YtcchhbkbnbphhaaDoor

/- LengthOf, CyclesOf on both sides. -/
namespace Go.Proofs.YtcchhbkbnbphhaaDoor
open Go.RowKit

section
variable (n : Int) (w : World)
end
end Go.Proofs.YtcchhbkbnbphhaaDoor

/- Decode on both sides. -/
namespace Go.Proofs.YtcchhbkbnbphhaaDoor
open Go.RowKit

section
variable (a b c : Int) (w : World)
end
end Go.Proofs.YtcchhbkbnbphhaaDoor

/- Encode, the program's: the bytes of an instruction. -/
namespace Go.Proofs.YtcchhbkbnbphhaaDoor
open Go.RowKit

def encR (arg : Int) : Nat → Int
  | 0 => arg
  | k + 1 => encR arg k / 256
def encP (arg : Int) : Nat → List Int
  | 0 => []
  | k + 1 => encP arg k ++ [encR arg k % 256]
theorem encR_nonneg (arg : Int) (h : 0 ≤ arg) : ∀ k, 0 ≤ encR arg k
  | 0 => h
  | k + 1 => Int.ediv_nonneg (encR_nonneg arg h k) (by omega)
theorem encR_le (arg : Int) (h : 0 ≤ arg) (h2 : arg ≤ 4095) : ∀ k, encR arg k ≤ 4095
  | 0 => h2
  | k + 1 => by
    have := encR_le arg h h2 k
    have := encR_nonneg arg h k
    show encR arg k / 256 ≤ 4095
    omega
theorem encP_len (arg : Int) (k : Nat) : (encP arg k).length = k := by
  induction k with
  | zero => rfl
  | succ k ih => simp only [encP, List.length_append, ih]; rfl
def encL (op reg arg : Int) : List Int := (8 * op + reg) :: encP arg ((lenT op).toNat - 1)
theorem encL_len (op reg arg : Int) : (encL op reg arg).length = (lenT op).toNat := by
  have := lenT_range op
  simp only [encL, List.length_cons, encP_len]; omega
def encF (op reg arg : Int) : List Int × Int := if okIns op reg arg then (encL op reg arg, 0) else ([], 1)
def sliceLen : Value → Nat
  | .slice _ n _ => n
  | _ => 0
theorem rowv_box {w : World} {base g : Nat} {t : TypeId} {cs : Array Value} (hb : base ≤ g) (hg : Box w g t cs) (hm : cs.size ≤ maxLen) : w.ownsRow base t 1 (.slice (some ⟨g, 0, none⟩) cs.size cs.size) cs.size cs.toList :=
  ⟨by simp, .inr ⟨g, cs.size, cs, rfl, hb, hg, Nat.le_refl _, hm, by simp, by rw [Nat.mul_one]; exact List.take_of_length_le (by simp)⟩⟩
def GivesI (zs : List Int) (w : World) (e : Ending) (w' : World) : Prop := ∃ A n c, e = .returned (.slice A n c) ∧ zs.length = n ∧ Hid (OwnI w' w.heap.size w'.heap.size A zs) ∧ Below w.heap.size w w'

set_option maxRecDepth 100000 in
set_option maxHeartbeats 4000000 in
theorem insBytes (op : Nat) (reg arg : Int) (w : World) (ht : OpsT w) (h0 : op ≤ 21) (hr0 : 0 ≤ reg) (hr1 : reg ≤ 3) (ha0 : 0 ≤ arg) (ha1 : arg ≤ 4095) :
    Calls Tryd.prog 24 #[.agg #[.int .i64 op, .int .i64 reg, .int .i64 arg]] w (GivesI (encL op reg arg) w) := by
  have hlt := ht.lt
  have HC : Hid (∀ W, Below w.heap.size w W → W.cell? ⟨0, op * 4, none⟩ = some (.string (opWord op)) ∧ W.cell? ⟨0, op * 4 + 1, none⟩ = some (.int .i64 (regT op)) ∧ W.cell? ⟨0, op * 4 + 2, none⟩ = some (.int .i64 (argT op)) ∧ W.cell? ⟨0, op * 4 + 3, none⟩ = some (.int .i64 (fixT op))) := Lib.hid (fun W hb => (ht.below hb) op (by omega))
  have HL := Lib.hid (lenA_arg op)
  have hl := lenT_range op
  have HE : Hid (encL op reg arg = (8 * (op : Int) + reg) :: encP arg ((lenT op).toNat - 1)) := Lib.hid rfl
  generalize encL op reg arg = zs at HE ⊢
  obtain ⟨l, hll⟩ : ∃ l : Nat, lenT op = l := ⟨(lenT op).toNat, by omega⟩
  rw [hll] at HL HE hl
  rw [show ((l : Int)).toNat = l from by omega] at HE
  clear hll ht
  generalize opWord op = s at HC
  generalize regT op = r at HC
  generalize argT op = ar at HC HL
  generalize fixT op = cy at HC
  have hl1 : 1 ≤ l := by omega
  have hl3 : l ≤ 3 := by omega
  have HN := Lib.hid (encR_nonneg arg ha0)
  have HM := Lib.hid (encR_le arg ha0 ha1)
  have HP := Lib.hid (encP_len arg)
  obtain ⟨W0, hW0⟩ : ∃ W0, W0 = (w.alloc (.cells #[.int .i64 op, .int .i64 reg, .int .i64 arg] 24)).alloc (.cells #[.int .i64 (8 * op + reg)] 3) := ⟨_, rfl⟩
  have hb0 : Below w.heap.size w W0 := by rw [hW0]; exact bt (alloc_below _ _) (alloc_below _ _)
  have X0 : Hid (Box W0 w.heap.size 24 #[.int .i64 op, .int .i64 reg, .int .i64 arg]) := Lib.hid (by rw [hW0]; exact (Box.new _ _ _).alloc _)
  have X1 : Hid (Box W0 (w.heap.size + 1) 3 #[.int .i64 (8 * op + reg)]) := Lib.hid (by rw [hW0]; simpa using Box.new (w.alloc (.cells #[.int .i64 op, .int .i64 reg, .int .i64 arg] 24)) 3 #[.int .i64 (8 * op + reg)])
  have hs0 : w.heap.size + 1 ≤ W0.heap.size := by have := X1.out.lt; omega
  have HW0 := Lib.hid hW0
  have HB0 := Lib.hid hb0
  clear hW0 hb0 hl
  go_enter Tryd.func24, Tryd.ntmps24
  go_wp2
  rw [← HW0.out]
  clear HW0
  go_loopw [3, 4] (fun u v wr => ∃ (j : Nat) (A' : Option Addr) (c' : Nat), j + 1 ≤ l ∧ u = .slice A' (j + 1) c' ∧ v = .int .i64 (encR arg j) ∧ Hid (Below w.heap.size w wr) ∧ Hid (GroI wr (w.heap.size + 1) (.slice A' (j + 1) c') ((8 * op + reg) :: encP arg j)) ∧ Hid (Box wr w.heap.size 24 #[.int .i64 op, .int .i64 reg, .int .i64 arg]) ∧ w.heap.size + 1 ≤ wr.heap.size) (fun u _ _ => 4 - sliceLen u)
  case atStart => exact ⟨0, _, 1, hl1, rfl, rfl, HB0, Lib.hid (rowv_box (Nat.le_refl _) X1.out (by show 1 ≤ maxLen; unfold maxLen; omega)), X0, hs0⟩
  case round =>
    clear HB0 X0 X1 hs0
    obtain ⟨j, A', c', hj, rfl, rfl, HB, HG, X0, hsz⟩ := hrel
    have x0 := X0.out.cell 0 rfl
    have x1 := X0.out.cell 1 rfl
    have x2 := X0.out.cell 2 rfl
    obtain ⟨c1, c2, c3, c4⟩ := HC.out wr HB.out
    have hlw : 0 < wr.heap.size := by omega
    by_cases hlt : j + 1 < l
    · have hcmp : ((j + 1 : Nat) : Int) < (l : Int) := by omega
      have HRk : Hid (wr.ownsRow (w.heap.size + 1) 3 1 (.slice A' (j + 1) c') (j + 1) (((8 * op + reg) :: encP arg j).map (Value.int .i64))) := Lib.hid (by have := HG.out; unfold GroI at this; rwa [List.length_cons, HP.out] at this)
      have hr0' := HN.out j
      have hr1' := HM.out j
      have HS1 : Hid (encR arg (j + 1) = encR arg j / 256) := Lib.hid rfl
      have HS2 : Hid (encP arg (j + 1) = encP arg j ++ [encR arg j % 256]) := Lib.hid rfl
      generalize encR arg j = rest at HS1 HS2 hr0' hr1' ⊢
      clear HG
      go_wp2_with fail
      refine (opLength s r ar cy _).mono ?_
      rintro e w1 ⟨rfl, hb⟩
      rw [HL.out]
      have HB1 := Lib.hid (bt HB.out hb)
      have HR1 := Lib.hid (rowv_below HRk.out hb)
      have X1 := Lib.hid (X0.out.step hb)
      have hs1 : w.heap.size + 1 ≤ w1.heap.size := Nat.le_trans hsz hb.size
      clear hb x0 x1 x2 c1 c2 c3 c4 X0 HB HRk hsz hlw
      have HBa : Hid (Below w1.heap.size w1 (w1.alloc (.cells #[.int .i64 (rest % 256)] 3))) := Lib.hid (alloc_below _ _)
      have HOw := Lib.hid (rowv_below HR1.out HBa.out)
      have HNw : Hid (∀ i u, [Value.int .i64 (rest % 256)][i]? = some u → (w1.alloc (.cells #[.int .i64 (rest % 256)] 3)).cell? ⟨w1.heap.size, i, none⟩ = some u) := Lib.hid (fun i u hi => by
        match i, hi with
        | 0, hi => simp at hi; subst hi; exact (Box.new w1 3 #[.int .i64 (rest % 256)]).cell 0 rfl)
      have hm : ((j + 1 : Nat) : Int) + 1 ≤ 1000 := by omega
      go_wp2_with (at_builtin; refine wpList_app_one rfl (.tmp 22) (.tmp 25) 26 3 rfl (.int .i64 0) 1 8 elemInt Tryd.underlying26 (w.heap.size + 1) (.slice A' (j + 1) c') (j + 1) (((8 * op + reg) :: encP arg j).map (Value.int .i64)) rfl ?hown w1.heap.size 1 rfl [.int .i64 (rest % 256)] rfl ?hnews ?hone ?h63 ?hby ?hbase ?_)
      case hown => exact HOw.out
      case hnews => exact HNw.out
      case hone => intro u hu; simp at hu; subst hu; rfl
      case h63 => unfold maxLen; omega
      case hby => omega
      case hbase => simp; omega
      intro A2 c2 w2 hR2 hc2 hg2 hb2
      have HR2 := Lib.hid hR2
      have X2 := Lib.hid ((X1.out.step HBa.out).below hb2 (by omega))
      have HB2 := Lib.hid ((bt HB1.out HBa.out).trans (hb2.mono (by omega)))
      have hs2 : w.heap.size + 1 ≤ w2.heap.size := Nat.le_trans (Nat.le_trans hs1 HBa.out.size) hb2.size
      clear hR2 hb2 hg2
      go_wp2
      go_roundw
      case rel =>
        refine ⟨j + 1, A2, c2, by omega, rfl, by rw [HS1.out], HB2, Lib.hid ?_, X2, hs2⟩
        unfold GroI; rw [HS2.out, List.length_cons, List.length_append, HP.out, ← List.cons_append, List.map_append]; exact HR2.out
      case measure => simp [sliceLen]; omega
    · obtain rfl : l = j + 1 := by omega
      have hcmp : ¬ ((j + 1 : Nat) : Int) < ((j + 1 : Nat) : Int) := by omega
      go_wp2_with fail
      refine (opLength s r ar cy _).mono ?_
      rintro e w1 ⟨rfl, hb⟩
      rw [HL.out]
      have HB1 := Lib.hid (bt HB.out hb)
      have HO : Hid (OwnI w1 w.heap.size w1.heap.size A' ((8 * op + reg) :: encP arg j)) := Lib.hid ((HG.out.own (Nat.le_succ _)).below hb |>.wideB (Nat.le_refl _) hb.size)
      clear hb x0 x1 x2 c1 c2 c3 c4 X0 HB HG
      go_wp2
      go_ret
      exact ⟨_, _, _, rfl, by rw [HE.out, List.length_cons, HP.out]; omega, by rw [HE.out]; exact HO, HB1.out⟩
end Go.Proofs.YtcchhbkbnbphhaaDoor

/- Contracts of szRoot, toRoot, eqRoot, markRoot, heldRoot; a root behind a box. -/
namespace Go.Proofs.YtcchhbkbnbphhaaDoor
open Go.RowKit

section
variable {w w' : World} {b lo hi : Nat} {g : Int} {A : Option Addr} {n c : Nat} {zs : List Int}
end
theorem OwnI.wide {w : World} {lo hi lo' hi' : Nat} {A : Option Addr} {zs : List Int} (h : OwnI w lo hi A zs) (h1 : lo' ≤ lo) (h2 : hi ≤ hi') : OwnI w lo' hi' A zs := by
  rcases h with e | ⟨b, m, f, e, p1, p2, hm, hr, hf⟩
  · exact .inl e
  · exact .inr ⟨b, m, f, e, by omega, by omega, hm, hr, hf⟩
theorem OwnI.far {w : World} {lo hi : Nat} {A : Option Addr} {zs : List Int} (h : OwnI w lo hi A zs) {b : Nat} {t : TypeId} {cs : Array Value} (X : Box w b t cs) (ht : t ≠ 3) (i : Nat) (u : Value) : OwnI (w.setCell ⟨b, i, none⟩ u) lo hi A zs := by
  rcases h with e | ⟨b', m, f, e, p1, p2, hm, hr, hf⟩
  · exact .inl e
  · exact .inr ⟨b', m, f, e, p1, p2, hm, hr.setOther (a := ⟨b, i, none⟩) (by exact (X.ne hr ht).symm) u, hf⟩

end Go.Proofs.YtcchhbkbnbphhaaDoor

/- A map[int]bool of the call's own whose values are all true: a set of integers, as the list of its keys. -/
namespace Go.Proofs.YtcchhbkbnbphhaaDoor
open Go.RowKit

def SetI (w : World) (b : Nat) (ks : List Int) : Prop :=
  ∃ es clock, w.heap[b]? = some (.map es clock) ∧ es.toList.map (·.key) = ks.map (Value.int .i64) ∧ ∀ x ∈ es.toList, x.val = .bool true
theorem SetI.lt {w : World} {b : Nat} {ks : List Int} (h : SetI w b ks) : b < w.heap.size := by
  obtain ⟨es, clock, hb, _⟩ := h
  exact (Array.getElem?_eq_some_iff.1 hb).1
theorem SetI.below {w w' : World} {b : Nat} {ks : List Int} (h : SetI w b ks) (hb : Below w.heap.size w w') : SetI w' b ks := by
  have hlt := h.lt
  obtain ⟨es, clock, h1, h2, h3⟩ := h
  exact ⟨es, clock, (hb.block b hlt).trans h1, h2, h3⟩
theorem SetI.made (w : World) : SetI (w.alloc (.map #[] 0)) w.heap.size [] := ⟨#[], 0, (MapKept.heap_alloc w _).1, by simp, by simp⟩

section
variable {P : Program} {t k e : TypeId}
end

end Go.Proofs.YtcchhbkbnbphhaaDoor

/- Contracts of both RootOK and of what they call. -/
namespace Go.Proofs.YtcchhbkbnbphhaaDoor
open Go.RowKit

end Go.Proofs.YtcchhbkbnbphhaaDoor

/- Contracts of the readers of digits: isDigit, l00Digit, allDigits, numberOf, l02Fixed. -/
namespace Go.Proofs.YtcchhbkbnbphhaaDoor
open Go.RowKit

def digB (n : Int) : Bool := decide (48 ≤ n ∧ n ≤ 57)
set_option maxRecDepth 100000 in
theorem isDigit (n : Int) (w : World) : Calls Tryd.prog 70 #[.int .u8 n] w fun e w' => e = .returned (.bool (digB n)) ∧ w = w' := by
  go_enter Tryd.func70, Tryd.ntmps70
  go_wp2
  all_goals go_ret
  all_goals (refine ⟨ret_bool ?_, rfl⟩)
  all_goals (unfold digB; rw [Bool.eq_iff_iff]; simp; try omega)
def digC (c : UInt8) : Bool := digB c.toNat
def allDig (l : List UInt8) : Bool := l.all digC
theorem allDig_step (s : ByteArray) (k : Nat) (h : k < s.size) : allDig (s.data.toList.drop k) = (digB s[k].toNat && allDig (s.data.toList.drop (k + 1))) := by
  unfold allDig
  rw [List.drop_eq_getElem_cons (by simpa using h)]; rfl
theorem allDig_end (s : ByteArray) (k : Nat) (h : s.size ≤ k) : allDig (s.data.toList.drop k) = true := by
  rw [List.drop_of_length_le (by simpa using h)]; rfl

set_option maxRecDepth 100000 in
set_option maxHeartbeats 1000000 in
theorem allDigits (s : ByteArray) (w : World) (hs : s.size ≤ maxLen) : Calls Tryd.prog 62 #[.string s] w fun e w' => e = .returned (.bool (allDig s.data.toList)) ∧ w = w' := by
  unfold maxLen at hs
  go_enter Tryd.func62, Tryd.ntmps62
  go_wp2
  go_loop [3] (fun i => ∃ k : Nat, k ≤ s.size ∧ i = .int .i64 k ∧ Hid (allDig s.data.toList = allDig (s.data.toList.drop k))) (fun i => s.size - (intOf i).toNat)
  case atStart => exact ⟨0, Nat.zero_le _, rfl, Lib.hid rfl⟩
  case round =>
    obtain ⟨k, hk, rfl, HT⟩ := hrel
    by_cases hlt : k < s.size
    · have HS := Lib.hid (allDig_step s k hlt)
      have HC := Lib.hid (fun W => isDigit (s[k].toNat : Int) W)
      by_cases hE : digB (s[k].toNat : Int) = true
      · have HE := Lib.hid hE
        rw [hE] at HC
        clear hE
        go_wp2_with (first | (go_at_call 70; refine (HC.out _).mono ?_; rintro e w' ⟨rfl, rfl⟩))
        go_round
        case rel => exact ⟨k + 1, by omega, by go_num, Lib.hid (by rw [HT.out, HS.out, HE.out]; rfl)⟩
        case measure => simp [intOf]; omega
      · have hE' : digB (s[k].toNat : Int) = false := by simpa using hE
        have HE := Lib.hid hE'
        rw [hE'] at HC
        clear hE hE'
        go_wp2_with (first | (go_at_call 70; refine (HC.out _).mono ?_; rintro e w' ⟨rfl, rfl⟩))
        go_ret
        exact ⟨ret_bool (by rw [HT.out, HS.out, HE.out]; rfl), rfl⟩
    · go_wp2
      go_ret
      exact ⟨ret_bool (by rw [HT.out]; exact (allDig_end s k (by omega)).symm), rfl⟩

def numOf (l : List UInt8) : Nat := l.foldl (fun n c => 10 * n + (c.toNat - 48)) 0
theorem numOf_step (s : ByteArray) (k : Nat) (h : k < s.size) : numOf (s.data.toList.take (k + 1)) = 10 * numOf (s.data.toList.take k) + (s[k].toNat - 48) := by
  unfold numOf
  rw [List.take_succ_eq_append_getElem (by simpa using h), List.foldl_append]; rfl
theorem fold_lt (l : List UInt8) (h : allDig l = true) : ∀ m, l.foldl (fun n c => 10 * n + (c.toNat - 48)) m < (m + 1) * 10 ^ l.length := by
  induction l with
  | nil => intro m; simp
  | cons a r ih =>
    intro m
    unfold allDig at h
    rw [List.all_cons, Bool.and_eq_true] at h
    have ha : (a.toNat : Int) ≤ 57 := by have := h.1; unfold digC digB at this; simp at this; omega
    rw [List.foldl_cons]
    refine Nat.lt_of_lt_of_le (ih h.2 _) ?_
    rw [List.length_cons, Nat.pow_succ, Nat.mul_comm (10 ^ r.length) 10, ← Nat.mul_assoc]
    exact Nat.mul_le_mul_right _ (by omega)
theorem numOf_lt (l : List UInt8) (h : allDig l = true) : numOf l < 10 ^ l.length := by
  have := fold_lt l h 0
  simpa [numOf] using this
theorem allDig_take (l : List UInt8) (k : Nat) (h : allDig l = true) : allDig (l.take k) = true := by
  unfold allDig at *
  rw [List.all_eq_true] at *
  exact fun x hx => h x (List.mem_of_mem_take hx)
theorem allDig_at (s : ByteArray) (k : Nat) (h : k < s.size) (ha : allDig s.data.toList = true) : 48 ≤ s[k].toNat ∧ s[k].toNat ≤ 57 := by
  unfold allDig at ha
  rw [List.all_eq_true] at ha
  have := ha s[k] (by exact List.getElem_mem (l := s.data.toList) (n := k) (by simpa using h))
  unfold digC digB at this
  simp at this
  omega

set_option maxRecDepth 100000 in
set_option maxHeartbeats 1000000 in
theorem numberOf (s : ByteArray) (w : World) (hs : s.size ≤ 17) (hd : allDig s.data.toList = true) : Calls Tryd.prog 63 #[.string s] w fun e w' => e = .returned (.int .i64 (numOf s.data.toList : Nat)) ∧ w = w' := by
  have HD := Lib.hid hd
  clear hd
  go_enter Tryd.func63, Tryd.ntmps63
  go_wp2
  go_loop [3, 4] (fun n i => ∃ k : Nat, k ≤ s.size ∧ i = .int .i64 k ∧ n = .int .i64 (numOf (s.data.toList.take k) : Nat)) (fun _ i => s.size - (intOf i).toNat)
  case atStart => exact ⟨0, Nat.zero_le _, rfl, rfl⟩
  case round =>
    obtain ⟨k, hk, rfl, rfl⟩ := hrel
    have hb : numOf (s.data.toList.take k) < 100000000000000000 := by
      refine Nat.lt_of_lt_of_le (numOf_lt _ (allDig_take _ k HD.out)) ?_
      rw [List.length_take]
      exact Nat.le_trans (Nat.pow_le_pow_right (by omega) (show min k s.data.toList.length ≤ 17 by omega)) (by decide)
    by_cases hlt : k < s.size
    · have HS := Lib.hid (numOf_step s k hlt)
      have hc := allDig_at s k hlt HD.out
      generalize numOf (s.data.toList.take k) = m at HS hb
      obtain ⟨hc1, hc2⟩ := hc
      have hw : IntKind.u8.wrap ((s[k].toNat : Int) - 48) = (s[k].toNat : Int) - 48 := IntWalk.u8_in _ (by omega)
      go_wp2
      go_round
      case rel => exact ⟨k + 1, by omega, by go_num, by rw [HS.out]; congr 1; omega⟩
      case measure => simp [intOf]; omega
    · have HF : Hid (numOf (s.data.toList.take k) = numOf s.data.toList) := Lib.hid (by rw [List.take_of_length_le (by simpa using by omega)])
      generalize numOf (s.data.toList.take k) = m at HF hb
      go_wp2
      go_ret
      exact ⟨ret_int (by rw [HF.out]), rfl⟩

/- What a root's text says. -/
end Go.Proofs.YtcchhbkbnbphhaaDoor

/- Contracts of l01Read and of both ReadDisk. -/
namespace Go.Proofs.YtcchhbkbnbphhaaDoor
open Go.RowKit

def down (ws : List (Int × ByteArray)) (at_ : Int) : Nat → Option ByteArray
  | 0 => none
  | k + 1 => if (ws.getD k (0, ByteArray.empty)).1 = at_ then some (ws.getD k (0, ByteArray.empty)).2 else down ws at_ k
end Go.Proofs.YtcchhbkbnbphhaaDoor

/- Contracts of the digits' functions: l00Digits, l02Digits, digitsOf. -/
namespace Go.Proofs.YtcchhbkbnbphhaaDoor
open Go.RowKit

end Go.Proofs.YtcchhbkbnbphhaaDoor

/- The map of words: a map[string]int of the call's own, as a list of its entries. -/
namespace Go.Proofs.YtcchhbkbnbphhaaDoor
open Go.RowKit

def VocM (w : World) (b : Nat) (l : List (ByteArray × Int)) : Prop :=
  ∃ es clock, w.heap[b]? = some (.map es clock) ∧ es.toList.map (fun e => (e.key, e.val)) = l.map (fun x => (Value.string x.1, Value.int .i64 x.2))
def lookV (z : ByteArray) : List (ByteArray × Int) → Option Int
  | [] => none
  | x :: r => if z = x.1 then some x.2 else lookV z r
theorem VocM.lt {w : World} {b : Nat} {l : List (ByteArray × Int)} (h : VocM w b l) : b < w.heap.size := by
  obtain ⟨es, clock, hb, _⟩ := h
  exact (Array.getElem?_eq_some_iff.1 hb).1
theorem VocM.below {w w' : World} {b : Nat} {l : List (ByteArray × Int)} (h : VocM w b l) (hb : Below w.heap.size w w') : VocM w' b l := by
  have hlt := h.lt
  obtain ⟨es, clock, h1, h2⟩ := h
  exact ⟨es, clock, (hb.block b hlt).trans h1, h2⟩
theorem VocM.made (w : World) : VocM (w.alloc (.map #[] 0)) w.heap.size [] := ⟨#[], 0, (MapKept.heap_alloc w _).1, by simp⟩
theorem ba_beq (a b : ByteArray) : (a == b) = decide (a = b) := by
  have h : (a == b) = (a.data == b.data) := rfl
  rw [h, Bool.eq_iff_iff]
  simp only [beq_iff_eq, decide_eq_true_eq]
  exact ⟨fun h => by cases a; cases b; simp_all, fun h => by rw [h]⟩
theorem find_voc (z : ByteArray) : ∀ (es : List MapEntry) (l : List (ByteArray × Int)) (i : Nat), es.map (fun e => (e.key, e.val)) = l.map (fun x => (Value.string x.1, Value.int .i64 x.2)) →
    (∀ v, lookV z l = some v → ∃ j, Instr.findNow .string (.string z) es i = some (some (j, .int .i64 v))) ∧ (lookV z l = none → Instr.findNow .string (.string z) es i = some none)
  | [], l, i, hk => by
    have : l = [] := by cases l with | nil => rfl | cons a r => simp at hk
    subst this
    exact ⟨fun v h => by simp [lookV] at h, fun _ => rfl⟩
  | e :: es, [], i, hk => by simp at hk
  | e :: es, x :: l, i, hk => by
    simp only [List.map_cons, List.cons.injEq, Prod.mk.injEq] at hk
    obtain ⟨⟨hk1, hk2⟩, hk3⟩ := hk
    have ih := find_voc z es l (i + 1) hk3
    by_cases hz : z = x.1
    · have hs : (z == x.1) = true := by rw [ba_beq]; simpa using hz
      constructor
      · intro v hv
        simp only [lookV, if_pos hz, Option.some.injEq] at hv
        refine ⟨i, ?_⟩
        simp only [Instr.findNow, hk1, Instr.sameNow, hs]
        rw [hk2, hv]
      · intro h
        simp [lookV, if_pos hz] at h
    · have hs : (z == x.1) = false := by rw [ba_beq]; simpa using hz
      have hf : Instr.findNow .string (.string z) (e :: es) i = Instr.findNow .string (.string z) es (i + 1) := by
        simp only [Instr.findNow, hk1, Instr.sameNow, hs]
      constructor
      · intro v hv
        simp only [lookV, if_neg hz] at hv
        obtain ⟨j, hj⟩ := ih.1 v hv
        exact ⟨j, by rw [hf, hj]⟩
      · intro h
        simp only [lookV, if_neg hz] at h
        rw [hf]; exact ih.2 h
section
variable {P : Program} {t k e : TypeId}
theorem run_voc_look {w : World} {b : Nat} {l : List (ByteArray × Int)} (ht : P.underlying t = some (.map k e)) (hk : P.underlying k = some .string) (hz : (zeroValue e).run P w = .ok (.int .i64 0) w) (h : VocM w b l) (z : ByteArray) :
    (Instr.lookup t (.map (some b)) (.string z) true).run P w = .ok (.tuple #[.int .i64 ((lookV z l).getD 0), .bool (lookV z l).isSome]) w := by
  obtain ⟨es, clock, hb, hks⟩ := h
  have hf := find_voc z es.toList l 0 hks
  cases hm : lookV z l with
  | some v =>
    obtain ⟨j, q1⟩ := hf.1 v hm
    simp [Instr.lookup, run_underlying ht, MapKept.run_getObj_map hb, MapKept.run_checkKey (w := w) hk (show MapKept.IsKey .string (.string z) from trivial) _ 9999, MapKept.run_findKey (w := w) hk q1, Result.andThen]
  | none =>
    have q1 := hf.2 hm
    simp [Instr.lookup, run_underlying ht, MapKept.run_getObj_map hb, MapKept.run_checkKey (w := w) hk (show MapKept.IsKey .string (.string z) from trivial) _ 9999, MapKept.run_findKey (w := w) hk q1, hz, Result.andThen]
theorem run_voc_add {w : World} {b : Nat} {l : List (ByteArray × Int)} (ht : P.underlying t = some (.map k e)) (hk : P.underlying k = some .string) (h : VocM w b l) (z : ByteArray) (v : Int) (hn : lookV z l = none) :
    ∃ w', (Instr.mapUpdate t (.map (some b)) (.string z) (.int .i64 v)).run P w = .ok () w' ∧ VocM w' b (l ++ [(z, v)]) ∧ w.grownBy w' (some b) := by
  obtain ⟨es, clock, hb, hks⟩ := h
  have q1 := (find_voc z es.toList l 0 hks).2 hn
  have hg : ∀ es' c', w.grownBy (ChangeMaps.setBlock w b (.map es' c')) (some b) := fun es' c' => ⟨rfl, rfl, rfl, by simp [ChangeMaps.setBlock], fun i _ hi => ChangeMaps.heap_setBlock_other hb _ (fun e => hi (by rw [e]))⟩
  refine ⟨ChangeMaps.setBlock w b (.map (es.push ⟨.string z, .int .i64 v, clock⟩) (clock + 1)), ?_, ⟨_, _, ChangeMaps.heap_setBlock_same hb _, ?_⟩, hg _ _⟩
  · simp [Instr.mapUpdate, run_underlying ht, MapKept.run_getObj_map hb, MapKept.run_checkKey (w := w) hk (show MapKept.IsKey .string (.string z) from trivial) _ 9999, MapKept.run_findKey (w := w) hk q1, MapKept.run_setObj_map _ hb, Result.andThen, ChangeMaps.setBlock]
  · simp [hks]
end
theorem wpList_voc_add {P : Program} (w : World) {ops : Array Oper} {rest : List Oper} {o : Oper} {a : Act} {Q : Exit → Act → World → Prop}
    (hg : o.guard = none) (m x v : Operand) (t : TypeId) (hop : o.op = Op.mapUpdate t m x v) (k e : TypeId) (ht : P.underlying t = some (.map k e)) (hk : P.underlying k = some .string) (b : Nat) (l : List (ByteArray × Int)) (z : ByteArray) (n : Int)
    (hm : a.eval m = .map (some b)) (hx : a.eval x = .string z) (hv : a.eval v = .int .i64 n) (hown : VocM w b l) (hnew : lookV z l = none)
    (hK : ∀ w', VocM w' b (l ++ [(z, n)]) → w.grownBy w' (some b) → wpList P ops Q rest (a.put o.dst undef) w') :
    wpList P ops Q (o :: rest) a w := by
  refine wpList_plain hg fun K' hK' => ?_
  obtain ⟨w', hrun, r1, r2⟩ := run_voc_add ht hk hown z n hnew
  unfold Oper.wp
  simp [execOp, hop, hm, hx, hv, hrun, Result.andThen]
  exact hK' _ _ (hK w' r1 r2)

def vocL (n : Nat) : List (ByteArray × Int) := (List.range n).map fun i => (opWord i, (i : Int))
theorem vocL_step (n : Nat) : vocL (n + 1) = vocL n ++ [(opWord n, (n : Int))] := by simp [vocL, List.range_succ]
theorem vocL_new (n : Nat) (h : n < 22) : lookV (opWord n) (vocL n) = none := by
  have : n = 0 ∨ n = 1 ∨ n = 2 ∨ n = 3 ∨ n = 4 ∨ n = 5 ∨ n = 6 ∨ n = 7 ∨ n = 8 ∨ n = 9 ∨ n = 10 ∨ n = 11 ∨ n = 12 ∨ n = 13 ∨ n = 14 ∨ n = 15 ∨ n = 16 ∨ n = 17 ∨ n = 18 ∨ n = 19 ∨ n = 20 ∨ n = 21 := by omega
  rcases this with rfl | rfl | rfl | rfl | rfl | rfl | rfl | rfl | rfl | rfl | rfl | rfl | rfl | rfl | rfl | rfl | rfl | rfl | rfl | rfl | rfl | rfl <;> decide
def opOf (z : ByteArray) : Option Int := lookV z (vocL 22)
theorem opOf_range {z : ByteArray} {v : Int} (h : opOf z = some v) : 0 ≤ v ∧ v ≤ 21 := by
  have aux : ∀ l : List (ByteArray × Int), (∀ x ∈ l, 0 ≤ x.2 ∧ x.2 ≤ 21) → ∀ v, lookV z l = some v → 0 ≤ v ∧ v ≤ 21 := by
    intro l
    induction l with
    | nil => intro _ v h; simp [lookV] at h
    | cons x l ih =>
      intro hx v h
      unfold lookV at h
      split at h
      · injection h with h; rw [← h]; exact hx x (by simp)
      · exact ih (fun y hy => hx y (by simp [hy])) v h
  refine aux _ ?_ v h
  intro x hx
  simp only [vocL, List.mem_map, List.mem_range] at hx
  obtain ⟨i, hi, rfl⟩ := hx
  exact ⟨by show (0 : Int) ≤ (i : Int); omega, by show (i : Int) ≤ 21; omega⟩
set_option maxRecDepth 100000 in
theorem zeroInt (w : World) : (zeroValue 3).run Tryd.prog w = .ok (.int .i64 0) w := by
  rfl

set_option maxRecDepth 100000 in
set_option maxHeartbeats 2000000 in
theorem newVoc (w : World) (ht : OpsT w) : Calls Tryd.prog 30 #[] w fun e w' => ∃ b, e = .returned (.map (some b)) ∧ Hid (VocM w' b (vocL 22)) ∧ Below w.heap.size w w' := by
  have HT := Lib.hid ht
  have hlt := ht.lt
  obtain ⟨W0, hW0⟩ : ∃ W0, W0 = w.alloc (.map #[] 0) := ⟨_, rfl⟩
  have hb0 : Below w.heap.size w W0 := by rw [hW0]; exact alloc_below _ _
  have hv0 : VocM W0 w.heap.size [] := by rw [hW0]; exact VocM.made w
  have HV0 := Lib.hid hv0
  have HB0 := Lib.hid hb0
  have HW0 := Lib.hid hW0
  clear ht hW0 hb0 hv0
  have hmm := fun t w => run_makeMap (P := Tryd.prog) t w
  go_enter Tryd.func30, Tryd.ntmps30
  go_wp2
  rw [← HW0.out]
  go_loopw [4] (fun i wr => ∃ n : Nat, n ≤ 22 ∧ i = .int .i64 n ∧ Hid (VocM wr w.heap.size (vocL n)) ∧ Hid (Below w.heap.size w wr)) (fun i _ => 22 - (intOf i).toNat)
  case atStart => exact ⟨0, by omega, rfl, Lib.hid HV0.out, HB0⟩
  case round =>
    obtain ⟨n, hn, rfl, HV, HB⟩ := hrel
    by_cases hlt2 : n < 22
    · have hi : (n : Int) < 22 := by omega
      obtain ⟨c1, c2, c3, c4⟩ := (HT.out.below HB.out) n (by omega)
      have HS := Lib.hid (vocL_step n)
      have HN := Lib.hid (vocL_new n hlt2)
      generalize opWord n = s at c1 HS HN
      clear c2 c3 c4
      go_wp2_with (refine wpList_voc_add _ rfl (.tmp 7) (.tmp 11) (.tmp 12) 64 rfl 9 3 Tryd.underlying64 Tryd.underlying9 w.heap.size (vocL n) s (n : Int) rfl rfl rfl HV.out HN.out ?_)
      intro w2 hv2 hg2
      have HV2 := Lib.hid hv2
      have HB2 : Hid (Below w.heap.size w w2) := Lib.hid (HB.out.grown hg2 HB.out.size (fun k hk => by injection hk with hk; omega))
      clear hv2 hg2 c1
      go_wp2
      go_roundw
      case rel => exact ⟨n + 1, by omega, by go_num, Lib.hid (by rw [HS.out]; exact HV2.out), HB2⟩
      case measure => simp [intOf]; omega
    · obtain rfl : n = 22 := by omega
      go_wp2
      go_ret
      exact ⟨_, rfl, HV, HB.out⟩
end Go.Proofs.YtcchhbkbnbphhaaDoor

/- The places of an instruction's numbers, as pointers. Written by gen_txt2.py. -/
namespace Go.Proofs.YtcchhbkbnbphhaaDoor
open Go.RowKit

def PtrL (w : World) (lo : Nat) (A : Option Addr) (ps : List Addr) : Prop := ∀ i, i < ps.length → ∃ g, lo ≤ g ∧ A = some ⟨g, 0, none⟩ ∧ w.cell? ⟨g, i, none⟩ = some (.pointer (some (ps.getD i ⟨0, 0, none⟩)))
theorem PtrL.below {w w' : World} {lo : Nat} {A : Option Addr} {ps : List Addr} (h : PtrL w lo A ps) (hb : Below w.heap.size w w') : PtrL w' lo A ps := fun i hi => by
  obtain ⟨g, l, e, hc⟩ := h i hi
  exact ⟨g, l, e, (hb.cell (cell_lt hc)).trans hc⟩
set_option maxRecDepth 100000 in
theorem elemPtr : Elem Tryd.prog 86 (.pointer none) 1 8 := ⟨⟨_, rfl, rfl, rfl, rfl⟩, rfl, by decide⟩
def ptrV (p : Addr) : Value := .pointer (some p)
theorem PtrL.of_row {w : World} {base : Nat} {A : Option Addr} {n c : Nat} {ps : List Addr} (h : w.ownsRow base 86 1 (.slice A n c) n (ps.map ptrV)) : PtrL w base A ps := by
  intro i hi
  obtain ⟨h1, ⟨h0, h2⟩ | ⟨g, cap, cur, hv, q1, q2, q3, q4, q5, q6⟩⟩ := h
  · subst h2; simp at h1; rw [h1] at hi; simp at hi
  · injection hv with hv1 hv2 hv3
    refine ⟨g, q1, hv1, ?_⟩
    simp only [List.length_map, Nat.mul_one] at h1
    have : (cur.toList.take (n * 1))[i]? = (ps.map ptrV)[i]? := by rw [q6]
    rw [List.getElem?_take, if_pos (by omega), Array.getElem?_toList, List.getElem?_map, List.getElem?_eq_getElem hi] at this
    refine (show Box w g 86 cur from q2).cell i ?_
    simpa [ptrV, List.getD_eq_getElem?_getD, List.getElem?_eq_getElem hi] using this
theorem PtrL.wide {w : World} {lo lo' : Nat} {A : Option Addr} {ps : List Addr} (h : PtrL w lo A ps) (hl : lo' ≤ lo) : PtrL w lo' A ps := fun i hi => by
  obtain ⟨g, l, e, hc⟩ := h i hi
  exact ⟨g, Nat.le_trans hl l, e, hc⟩
def GivesP (ps : List Addr) (w : World) (e : Ending) (w' : World) : Prop := ∃ A n c, e = .returned (.slice A n c) ∧ ps.length = n ∧ Hid (PtrL w' w.heap.size A ps) ∧ Below w.heap.size w w'
def placesL (r a : Int) (b : Nat) : List Addr := (if 0 < r then [⟨b, 1, none⟩] else []) ++ (if 0 < a then [⟨b, 2, none⟩] else [])
section
variable (s : ByteArray) (r a c : Int) (b : Nat) (w : World)
set_option maxRecDepth 100000 in
set_option maxHeartbeats 4000000 in
theorem numbersI : Calls Tryd.prog 49 #[.agg #[.string s, .int .i64 r, .int .i64 a, .int .i64 c], .pointer (some ⟨b, 0, none⟩)] w (GivesP (placesL r a b) w) := by
  have HE : Hid (placesL r a b = (if 0 < r then [⟨b, 1, none⟩] else []) ++ (if 0 < a then [⟨b, 2, none⟩] else [])) := Lib.hid rfl
  generalize placesL r a b = ps at HE ⊢
  have HB0 : Hid (Below w.heap.size w (w.alloc (.cells #[.string s, .int .i64 r, .int .i64 a, .int .i64 c] 57))) := Lib.hid (alloc_below _ _)
  have X0 : Hid (Box (w.alloc (.cells #[.string s, .int .i64 r, .int .i64 a, .int .i64 c] 57)) w.heap.size 57 #[.string s, .int .i64 r, .int .i64 a, .int .i64 c]) := Lib.hid (Box.new _ _ _)
  by_cases h1 : 0 < r
  · by_cases h2 : 0 < a
    · skip
      have HP : Hid (ps = [⟨b, 1, none⟩, ⟨b, 2, none⟩]) := Lib.hid (by rw [HE.out, if_pos h1, if_pos h2]; rfl)
      clear HE
      have x1 := X0.out.cell 1 rfl
      have x2 := X0.out.cell 2 rfl
      have HR : Hid ((w.alloc (.cells #[.string s, .int .i64 r, .int .i64 a, .int .i64 c] 57)).ownsRow (w.heap.size + 1) 86 1 (.slice none 0 0) 0 []) := Lib.hid (rowv_nil _ _ _ _)
      have X := X0
      have HB := HB0
      have hs : w.heap.size + 1 ≤ (w.alloc (.cells #[.string s, .int .i64 r, .int .i64 a, .int .i64 c] 57)).heap.size := by simp
      have HBa : Hid (Below (w.alloc (.cells #[.string s, .int .i64 r, .int .i64 a, .int .i64 c] 57)).heap.size (w.alloc (.cells #[.string s, .int .i64 r, .int .i64 a, .int .i64 c] 57)) ((w.alloc (.cells #[.string s, .int .i64 r, .int .i64 a, .int .i64 c] 57)).alloc (.cells #[.pointer (some ⟨b, 1, none⟩)] 86))) := Lib.hid (alloc_below _ _)
      have HOw := Lib.hid (rowv_below HR.out HBa.out)
      have HNw : Hid (∀ i u, [Value.pointer (some ⟨b, 1, none⟩)][i]? = some u → ((w.alloc (.cells #[.string s, .int .i64 r, .int .i64 a, .int .i64 c] 57)).alloc (.cells #[.pointer (some ⟨b, 1, none⟩)] 86)).cell? ⟨w.heap.size + 1, i, none⟩ = some u) := Lib.hid (fun i u hi => by
        match i, hi with
        | 0, hi => simp at hi; subst hi; simp)
      go_enter Tryd.func49, Tryd.ntmps49
      go_wp2_with (at_builtin; refine wpList_app_one rfl (.tmp 9) (.tmp 13) 83 86 rfl (.pointer none) 1 8 elemPtr Tryd.underlying83 (w.heap.size + 1) (.slice none 0 0) 0 ([]) rfl ?_ (w.heap.size + 1) 1 rfl [.pointer (some ⟨b, 1, none⟩)] rfl ?_ ?_ ?_ ?_ ?_ ?_)
      any_goals first | rfl | exact HOw.out | exact HNw.out | (intro u hu; simp at hu; subst hu; rfl) | (unfold maxLen; omega) | omega | (simp; done) | (simp; omega)
      intro A1 c1 w1 hR hc hg hb
      have HR := Lib.hid hR
      have X1 := Lib.hid ((X.out.step HBa.out).below hb (by omega))
      have HB1 := Lib.hid ((bt HB.out HBa.out).trans (hb.mono (by omega)))
      have hs1 : w.heap.size + 1 ≤ w1.heap.size := Nat.le_trans (Nat.le_trans hs HBa.out.size) hb.size
      clear hR hb hg HOw HNw HBa
      have X := X1
      have HB := HB1
      have hs := hs1
      clear x1 x2
      have x1 := X.out.cell 1 rfl
      have x2 := X.out.cell 2 rfl
      have HBa : Hid (Below w1.heap.size w1 (w1.alloc (.cells #[.pointer (some ⟨b, 2, none⟩)] 86))) := Lib.hid (alloc_below _ _)
      have HOw := Lib.hid (rowv_below HR.out HBa.out)
      have HNw : Hid (∀ i u, [Value.pointer (some ⟨b, 2, none⟩)][i]? = some u → (w1.alloc (.cells #[.pointer (some ⟨b, 2, none⟩)] 86)).cell? ⟨w1.heap.size, i, none⟩ = some u) := Lib.hid (fun i u hi => by
        match i, hi with
        | 0, hi => simp at hi; subst hi; exact (Box.new w1 86 #[.pointer (some ⟨b, 2, none⟩)]).cell 0 rfl)
      go_wp2_with (at_builtin; refine wpList_app_one rfl (.tmp 18) (.tmp 22) 83 86 rfl (.pointer none) 1 8 elemPtr Tryd.underlying83 (w.heap.size + 1) (.slice A1 1 c1) 1 ([.pointer (some ⟨b, 1, none⟩)]) rfl ?_ (w1.heap.size) 1 rfl [.pointer (some ⟨b, 2, none⟩)] rfl ?_ ?_ ?_ ?_ ?_ ?_)
      any_goals first | rfl | exact HOw.out | exact HNw.out | (intro u hu; simp at hu; subst hu; rfl) | (unfold maxLen; omega) | omega | (simp; done) | (simp; omega)
      intro A2 c2 w2 hR hc hg hb
      have HR := Lib.hid hR
      have X2 := Lib.hid ((X.out.step HBa.out).below hb (by omega))
      have HB2 := Lib.hid ((bt HB.out HBa.out).trans (hb.mono (by omega)))
      have hs2 : w.heap.size + 1 ≤ w2.heap.size := Nat.le_trans (Nat.le_trans hs HBa.out.size) hb.size
      clear hR hb hg HOw HNw HBa
      have X := X2
      have HB := HB2
      have hs := hs2
      clear x1 x2
      have x1 := X.out.cell 1 rfl
      have x2 := X.out.cell 2 rfl
      go_wp2
      go_ret
      exact ⟨_, _, _, rfl, by rw [HP.out]; rfl, Lib.hid (PtrL.wide (PtrL.of_row (by rw [HP.out]; exact HR.out)) (Nat.le_succ _)), HB.out⟩
    · skip
      have HP : Hid (ps = [⟨b, 1, none⟩]) := Lib.hid (by rw [HE.out, if_pos h1, if_neg h2]; rfl)
      clear HE
      have x1 := X0.out.cell 1 rfl
      have x2 := X0.out.cell 2 rfl
      have HR : Hid ((w.alloc (.cells #[.string s, .int .i64 r, .int .i64 a, .int .i64 c] 57)).ownsRow (w.heap.size + 1) 86 1 (.slice none 0 0) 0 []) := Lib.hid (rowv_nil _ _ _ _)
      have X := X0
      have HB := HB0
      have hs : w.heap.size + 1 ≤ (w.alloc (.cells #[.string s, .int .i64 r, .int .i64 a, .int .i64 c] 57)).heap.size := by simp
      have HBa : Hid (Below (w.alloc (.cells #[.string s, .int .i64 r, .int .i64 a, .int .i64 c] 57)).heap.size (w.alloc (.cells #[.string s, .int .i64 r, .int .i64 a, .int .i64 c] 57)) ((w.alloc (.cells #[.string s, .int .i64 r, .int .i64 a, .int .i64 c] 57)).alloc (.cells #[.pointer (some ⟨b, 1, none⟩)] 86))) := Lib.hid (alloc_below _ _)
      have HOw := Lib.hid (rowv_below HR.out HBa.out)
      have HNw : Hid (∀ i u, [Value.pointer (some ⟨b, 1, none⟩)][i]? = some u → ((w.alloc (.cells #[.string s, .int .i64 r, .int .i64 a, .int .i64 c] 57)).alloc (.cells #[.pointer (some ⟨b, 1, none⟩)] 86)).cell? ⟨w.heap.size + 1, i, none⟩ = some u) := Lib.hid (fun i u hi => by
        match i, hi with
        | 0, hi => simp at hi; subst hi; simp)
      go_enter Tryd.func49, Tryd.ntmps49
      go_wp2_with (at_builtin; refine wpList_app_one rfl (.tmp 9) (.tmp 13) 83 86 rfl (.pointer none) 1 8 elemPtr Tryd.underlying83 (w.heap.size + 1) (.slice none 0 0) 0 ([]) rfl ?_ (w.heap.size + 1) 1 rfl [.pointer (some ⟨b, 1, none⟩)] rfl ?_ ?_ ?_ ?_ ?_ ?_)
      any_goals first | rfl | exact HOw.out | exact HNw.out | (intro u hu; simp at hu; subst hu; rfl) | (unfold maxLen; omega) | omega | (simp; done) | (simp; omega)
      intro A1 c1 w1 hR hc hg hb
      have HR := Lib.hid hR
      have X1 := Lib.hid ((X.out.step HBa.out).below hb (by omega))
      have HB1 := Lib.hid ((bt HB.out HBa.out).trans (hb.mono (by omega)))
      have hs1 : w.heap.size + 1 ≤ w1.heap.size := Nat.le_trans (Nat.le_trans hs HBa.out.size) hb.size
      clear hR hb hg HOw HNw HBa
      have X := X1
      have HB := HB1
      have hs := hs1
      clear x1 x2
      have x1 := X.out.cell 1 rfl
      have x2 := X.out.cell 2 rfl
      go_wp2
      go_ret
      exact ⟨_, _, _, rfl, by rw [HP.out]; rfl, Lib.hid (PtrL.wide (PtrL.of_row (by rw [HP.out]; exact HR.out)) (Nat.le_succ _)), HB.out⟩
  · by_cases h2 : 0 < a
    · skip
      have HP : Hid (ps = [⟨b, 2, none⟩]) := Lib.hid (by rw [HE.out, if_neg h1, if_pos h2]; rfl)
      clear HE
      have x1 := X0.out.cell 1 rfl
      have x2 := X0.out.cell 2 rfl
      have HR : Hid ((w.alloc (.cells #[.string s, .int .i64 r, .int .i64 a, .int .i64 c] 57)).ownsRow (w.heap.size + 1) 86 1 (.slice none 0 0) 0 []) := Lib.hid (rowv_nil _ _ _ _)
      have X := X0
      have HB := HB0
      have hs : w.heap.size + 1 ≤ (w.alloc (.cells #[.string s, .int .i64 r, .int .i64 a, .int .i64 c] 57)).heap.size := by simp
      have HBa : Hid (Below (w.alloc (.cells #[.string s, .int .i64 r, .int .i64 a, .int .i64 c] 57)).heap.size (w.alloc (.cells #[.string s, .int .i64 r, .int .i64 a, .int .i64 c] 57)) ((w.alloc (.cells #[.string s, .int .i64 r, .int .i64 a, .int .i64 c] 57)).alloc (.cells #[.pointer (some ⟨b, 2, none⟩)] 86))) := Lib.hid (alloc_below _ _)
      have HOw := Lib.hid (rowv_below HR.out HBa.out)
      have HNw : Hid (∀ i u, [Value.pointer (some ⟨b, 2, none⟩)][i]? = some u → ((w.alloc (.cells #[.string s, .int .i64 r, .int .i64 a, .int .i64 c] 57)).alloc (.cells #[.pointer (some ⟨b, 2, none⟩)] 86)).cell? ⟨w.heap.size + 1, i, none⟩ = some u) := Lib.hid (fun i u hi => by
        match i, hi with
        | 0, hi => simp at hi; subst hi; simp)
      go_enter Tryd.func49, Tryd.ntmps49
      go_wp2_with (at_builtin; refine wpList_app_one rfl (.tmp 18) (.tmp 22) 83 86 rfl (.pointer none) 1 8 elemPtr Tryd.underlying83 (w.heap.size + 1) (.slice none 0 0) 0 ([]) rfl ?_ (w.heap.size + 1) 1 rfl [.pointer (some ⟨b, 2, none⟩)] rfl ?_ ?_ ?_ ?_ ?_ ?_)
      any_goals first | rfl | exact HOw.out | exact HNw.out | (intro u hu; simp at hu; subst hu; rfl) | (unfold maxLen; omega) | omega | (simp; done) | (simp; omega)
      intro A2 c2 w2 hR hc hg hb
      have HR := Lib.hid hR
      have X2 := Lib.hid ((X.out.step HBa.out).below hb (by omega))
      have HB2 := Lib.hid ((bt HB.out HBa.out).trans (hb.mono (by omega)))
      have hs2 : w.heap.size + 1 ≤ w2.heap.size := Nat.le_trans (Nat.le_trans hs HBa.out.size) hb.size
      clear hR hb hg HOw HNw HBa
      have X := X2
      have HB := HB2
      have hs := hs2
      clear x1 x2
      have x1 := X.out.cell 1 rfl
      have x2 := X.out.cell 2 rfl
      go_wp2
      go_ret
      exact ⟨_, _, _, rfl, by rw [HP.out]; rfl, Lib.hid (PtrL.wide (PtrL.of_row (by rw [HP.out]; exact HR.out)) (Nat.le_succ _)), HB.out⟩
    · skip
      have HP : Hid (ps = []) := Lib.hid (by rw [HE.out, if_neg h1, if_neg h2]; rfl)
      clear HE
      have x1 := X0.out.cell 1 rfl
      have x2 := X0.out.cell 2 rfl
      have HR : Hid ((w.alloc (.cells #[.string s, .int .i64 r, .int .i64 a, .int .i64 c] 57)).ownsRow (w.heap.size + 1) 86 1 (.slice none 0 0) 0 []) := Lib.hid (rowv_nil _ _ _ _)
      have X := X0
      have HB := HB0
      have hs : w.heap.size + 1 ≤ (w.alloc (.cells #[.string s, .int .i64 r, .int .i64 a, .int .i64 c] 57)).heap.size := by simp
      go_enter Tryd.func49, Tryd.ntmps49
      go_wp2
      go_ret
      exact ⟨_, _, _, rfl, by rw [HP.out]; rfl, Lib.hid (PtrL.wide (PtrL.of_row (by rw [HP.out]; exact HR.out)) (Nat.le_succ _)), HB.out⟩
end
end Go.Proofs.YtcchhbkbnbphhaaDoor

/- Encode on both sides, whole. -/
namespace Go.Proofs.YtcchhbkbnbphhaaDoor
open Go.RowKit

theorem GivesI.of {zs : List Int} {w w1 w' : World} {e : Ending} (hb : Below w.heap.size w w1) (h : GivesI zs w1 e w') : GivesI zs w e w' := by
  obtain ⟨A, n, c, rfl, hl, HO, hb2⟩ := h
  exact ⟨A, n, c, rfl, hl, Lib.hid (HO.out.wideB hb.size (Nat.le_refl _)), bt hb hb2⟩
def GivesIC (r : List Int × Int) (w : World) (e : Ending) (w' : World) : Prop := ∃ A c, e = .returned (.tuple #[.slice A r.1.length c, .int .i64 r.2]) ∧ Hid (OwnA w' w.heap.size w'.heap.size [.slice A r.1.length c] [.I r.1]) ∧ Below w.heap.size w w'
theorem ownI1 {w : World} {lo hi : Nat} {A : Option Addr} {n c : Nat} {ss : List Int} (hl : ss.length = n) (h : OwnI w lo hi A ss) : OwnA w lo hi [.slice A n c] [.I ss] := OwnA.one ⟨A, c, by rw [hl], h⟩
theorem encF_t {op reg arg : Int} (h : okIns op reg arg = true) : encF op reg arg = (encL op reg arg, 0) := by unfold encF; rw [h]; rfl
theorem encF_f {op reg arg : Int} (h : okIns op reg arg = false) : encF op reg arg = ([], 1) := by unfold encF; rw [h]; rfl
theorem okIns_iff {op reg arg : Int} (h : okIns op reg arg = true) : 0 ≤ op ∧ op ≤ 21 ∧ 0 ≤ reg ∧ reg ≤ regT op ∧ 0 ≤ arg ∧ arg ≤ argT op := by simpa [okIns] using h
theorem encL_1 (op reg arg : Int) (h : lenT op = 1) : encL op reg arg = [8 * op + reg] := by unfold encL; rw [h]; rfl
theorem encL_2 (op reg arg : Int) (h : lenT op = 2) (h0 : 0 ≤ arg) (h1 : arg ≤ 255) : encL op reg arg = [8 * op + reg, arg] := by
  unfold encL; rw [h]
  show [8 * op + reg, arg % 256] = _
  rw [Int.emod_eq_of_lt h0 (by omega)]
theorem encL_3 (op reg arg : Int) (h : lenT op = 3) (h0 : 0 ≤ arg) (h1 : arg ≤ 4095) : encL op reg arg = [8 * op + reg, arg % 256, arg / 256] := by
  unfold encL; rw [h]
  show [8 * op + reg, arg % 256, arg / 256 % 256] = _
  rw [Int.emod_eq_of_lt (by omega) (by omega : arg / 256 < 256)]
section
variable (op reg arg : Int) (w : World)
set_option maxRecDepth 100000 in
set_option maxHeartbeats 2000000 in
theorem implEncode (ht : OpsT w) : Calls Tryd.prog 6 #[.agg #[.int .i64 op, .int .i64 reg, .int .i64 arg]] w (GivesIC (encF op reg arg) w) := by
  have hb0 := alloc_below w (.cells #[.int .i64 op, .int .i64 reg, .int .i64 arg] 24)
  have X0 := Lib.hid (Box.new w 24 #[.int .i64 op, .int .i64 reg, .int .i64 arg])
  have HV := Lib.hid (valid op reg arg _ (ht.below hb0))
  have HT := Lib.hid ht
  have HB0 := Lib.hid hb0
  clear ht
  cases hok : okIns op reg arg with
  | true =>
    rw [encF_t hok]
    rw [hok] at HV
    obtain ⟨h1, h2, h3, h4, h5, h6⟩ := okIns_iff hok
    have hr := regT_range op
    have ha := argT_range op
    have HO := Lib.hid (fun W (h : OpsT W) => insBytes op.toNat reg arg W h (by omega) h3 (by omega) h5 (by omega))
    rw [show ((op.toNat : Nat) : Int) = op from by omega] at HO
    clear hok h1 h2 h3 h4 h5 h6 hr ha hb0
    generalize encL op reg arg = zs at HO ⊢
    go_enter Tryd.func6, Tryd.ntmps6
    go_wp2_with fail
    refine HV.out.mono ?_
    rintro e w1 ⟨rfl, hb⟩
    have HB1 := Lib.hid (bt HB0.out hb)
    have X1 := Lib.hid (X0.out.step hb)
    clear hb X0 HB0 HV
    have x0 := X1.out.cell 0 rfl
    have x1 := X1.out.cell 1 rfl
    have x2 := X1.out.cell 2 rfl
    go_wp2_with fail
    refine (HO.out w1 (HT.out.below HB1.out)).mono ?_
    rintro e w2 ⟨A, n, c, rfl, hl, HZ, hb⟩
    have HL := Lib.hid hl
    have HB2 := Lib.hid (bt HB1.out hb)
    have HZ2 := Lib.hid (HZ.out.wideB HB1.out.size (Nat.le_refl _))
    clear hl hb HZ x0 x1 x2
    go_wp2
    go_ret2
    exact ⟨A, c, by rw [HL.out]; rfl, Lib.hid (ownI1 rfl HZ2.out), HB2.out⟩
  | false =>
    rw [encF_f hok]
    rw [hok] at HV
    clear hok hb0
    go_enter Tryd.func6, Tryd.ntmps6
    go_wp2_with fail
    refine HV.out.mono ?_
    rintro e w1 ⟨rfl, hb⟩
    have HB1 := Lib.hid (bt HB0.out hb)
    clear hb X0 HB0 HV
    go_wp2
    go_ret2
    exact ⟨none, 0, rfl, Lib.hid (ownI1 rfl (.inl rfl)), HB1.out⟩

end
set_option maxRecDepth 100000 in
theorem implEncodeA (d0 d1 d2 : Int) (w : World) (t : OpsT w) : Calls Tryd.prog 6 #[.agg #[.int .i64 d0, .int .i64 d1, .int .i64 d2]] w (fun e w' => ∃ A c, e = .returned (.tuple #[.slice A (encF d0 d1 d2).1.length c, .int .i64 (encF d0 d1 d2).2]) ∧ Hid (OwnA w' w.heap.size w'.heap.size [.slice A (encF d0 d1 d2).1.length c] [.I (encF d0 d1 d2).1]) ∧ Below w.heap.size w w') := implEncode d0 d1 d2 w t
end Go.Proofs.YtcchhbkbnbphhaaDoor

/- The words of the operations, the model's list of them. Written by gen_txt4.py. -/
namespace Go.Proofs.YtcchhbkbnbphhaaDoor
open Go.RowKit

end Go.Proofs.YtcchhbkbnbphhaaDoor

/- Decode on both sides, whole. Written by gen_opdec2.py. -/
namespace Go.Proofs.YtcchhbkbnbphhaaDoor
open Go.RowKit
section
variable (a b c : Int) (w : World)
end
end Go.Proofs.YtcchhbkbnbphhaaDoor

/- Contracts of sectors, fateOf, tear, settle: what a crash makes of a disk. -/
namespace Go.Proofs.YtcchhbkbnbphhaaDoor
open Go.RowKit

def cellsS (ss : List ByteArray) : List Value := ss.map Value.string
theorem cellsS_len (ss : List ByteArray) : (cellsS ss).length = ss.length := by simp [cellsS]
theorem StrL.src {w : World} {A : Option Addr} {ss : List ByteArray} (h : StrL w A ss) (hp : 0 < (cellsS ss).length) : ∃ ad, A = some ad ∧ ∀ j v, (cellsS ss)[j]? = some v → w.cell? (ad.add j) = some v := by
  rw [cellsS_len] at hp
  obtain ⟨b, off, e, _⟩ := h 0 hp
  refine ⟨⟨b, off, none⟩, e, fun j v hj => ?_⟩
  have hj' : j < ss.length := by have := (List.getElem?_eq_some_iff.1 hj).1; simpa [cellsS] using this
  obtain ⟨b', off', e', hc⟩ := h j hj'
  rw [e] at e'
  injection e' with e'
  injection e' with e1 e2
  subst e1 e2
  have hv : v = Value.string (ss.getD j ByteArray.empty) := by
    unfold cellsS at hj
    rw [List.getElem?_map, List.getElem?_eq_getElem hj', Option.map_some] at hj
    rw [List.getD_eq_getElem?_getD, List.getElem?_eq_getElem hj']
    exact (Option.some.inj hj).symm
  rw [hv, ← hc]
  unfold Addr.add
  by_cases h0 : j = 0
  · subst h0; simp
  · rw [if_neg h0]

theorem getD_set (l : List ByteArray) (p j : Nat) (x : ByteArray) (h : p < l.length) : (l.set p x).getD j ByteArray.empty = if j = p then x else l.getD j ByteArray.empty := by
  simp only [List.getD_eq_getElem?_getD, List.getElem?_set]
  by_cases e : j = p
  · subst e; rw [if_pos rfl, if_pos rfl, if_pos h]; rfl
  · rw [if_neg (fun h => e h.symm), if_neg e]
structure Ok (ss : List ByteArray) (ws : List (Int × ByteArray)) : Prop where
  n48 : ss.length = 48
  m60 : ws.length ≤ 60
  small : ∀ s ∈ ss, s.size ≤ 100
  smallW : ∀ x ∈ ws, x.2.size ≤ 100
  at_ : ∀ x ∈ ws, 0 ≤ x.1 ∧ x.1 ≤ 47
end Go.Proofs.YtcchhbkbnbphhaaDoor
