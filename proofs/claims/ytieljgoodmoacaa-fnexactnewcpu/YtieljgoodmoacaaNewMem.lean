/- NewMem on both sides. Written by gen_newmem.py. -/
import Derived.Test.YtieljgoodmoacaaMemApi
import Derived.Test.YtieljgoodmoacaaNewFlash
namespace Go.Proofs.Ytieljgoodmoacaa
open Go.RowKit

/-- The first j of p, then 255. -/
def progZ (p : List Int) (j : Nat) : List Int := (List.range 256).map fun i => if i < j then p.getD i 0 else 255
theorem progZ_len (p : List Int) (j : Nat) : (progZ p j).length = 256 := by simp [progZ]
theorem progZ_at (p : List Int) (j i : Nat) (h : i < 256) : (progZ p j).getD i 0 = if i < j then p.getD i 0 else 255 := by
  unfold progZ
  rw [List.getD_eq_getElem?_getD, List.getElem?_map, List.getElem?_range h]
  rfl
theorem progZ_zero (p : List Int) : progZ p 0 = newZ := by
  apply ext_getD 0 (by rw [progZ_len, newZ_len])
  intro i hi
  rw [progZ_len] at hi
  rw [progZ_at _ _ _ hi, if_neg (by omega)]
  unfold newZ
  rw [List.getD_eq_getElem?_getD, List.getElem?_replicate, if_pos hi]
  rfl
theorem progZ_next (p : List Int) (j : Nat) (hj : j < 256) : (progZ p j).set j (p.getD j 0) = progZ p (j + 1) := by
  apply ext_getD 0 (by simp [progZ_len])
  intro i hi
  have hi' : i < 256 := by simpa [progZ_len] using hi
  rw [progZ_at _ _ _ hi']
  by_cases e : i = j
  · subst e
    rw [List.getD_eq_getElem?_getD, List.getElem?_set_self (by rw [progZ_len]; exact hj), if_pos (by omega)]
    rfl
  · rw [List.getD_eq_getElem?_getD, List.getElem?_set_ne (fun q => e q.symm), ← List.getD_eq_getElem?_getD, progZ_at _ _ _ hi']
    by_cases q : i < j
    · rw [if_pos q, if_pos (by omega)]
    · rw [if_neg q, if_neg (by omega)]
def zR : List Int := List.replicate 256 0
def zI : List Int := List.replicate 32 0
theorem zR_len : zR.length = 256 := List.length_replicate
theorem zI_len : zI.length = 32 := List.length_replicate
def newCode (p : List Int) : Int := if 4096 < p.length then 2 else if 256 < p.length then 8 else if p.all byB = true then 0 else 4
def newF (p : List Int) : List Int × List Int × List Int × List Bool × Int × Int := if newCode p = 0 then (zR, zI, progZ p p.length, zG, 0, 0) else ([], [], [], [], 0, newCode p)
theorem newCode0 {p : List Int} (h : newCode p = 0) : p.length ≤ 256 ∧ p.all byB = true := by
  unfold newCode at h
  split at h
  · omega
  · split at h
    · omega
    · split at h
      · exact ⟨by omega, by assumption⟩
      · omega
theorem newF_bnd (p : List Int) : lenA [.I (newF p).1, .I (newF p).2.1, .I (newF p).2.2.1, .B (newF p).2.2.2.1] ≤ 4294967296 := by
  unfold newF
  split
  · simp only [lenA, Lf.len, zR_len, zI_len, progZ_len, zG_len]; omega
  · simp [lenA, Lf.len]

/-- Rows of four blocks. -/
theorem ownA4b {w : World} {L R b0 b1 b2 : Nat} {C : Option Addr} {c0 c1 c2 c3 : Nat} {d0 d1 d2 : List Int} {d3 : List Bool} (a : OwnI w L R (some ⟨b0, 0, none⟩) d0) (b : OwnI w L R (some ⟨b1, 0, none⟩) d1) (c : OwnI w L R (some ⟨b2, 0, none⟩) d2) (d : OwnB w L R C d3) (h01 : b0 ≠ b1) (h02 : b0 ≠ b2) (h12 : b1 ≠ b2) :
    OwnA w L R [.slice (some ⟨b0, 0, none⟩) d0.length c0, .slice (some ⟨b1, 0, none⟩) d1.length c1, .slice (some ⟨b2, 0, none⟩) d2.length c2, .slice C d3.length c3] [.I d0, .I d1, .I d2, .B d3] := by
  have blk : ∀ {g n k b : Nat}, blkL (.slice (some ⟨g, 0, none⟩) n k) = some b → b = g := by
    intro g n k b h
    rcases Nat.eq_zero_or_pos n with hz | hz
    · rw [hz, blkL_zero] at h; cases h
    · rw [blkL_some hz] at h; injection h with h; exact h.symm
  have far : ∀ {g : Nat} {dd : List Int} {k kk b : Nat}, OwnI w L R (some ⟨g, 0, none⟩) dd → blkL (.slice (some ⟨g, 0, none⟩) dd.length k) = some b → blkL (.slice C d3.length kk) = some b → False := by
    intro g dd k kk b h h1 h2
    obtain ⟨m, f, hr⟩ := h.rowOf h1
    obtain ⟨m', f', hr'⟩ := d.rowOf h2
    exact row_ne hr hr' (by decide) rfl
  refine OwnA.cons ⟨_, c0, rfl, a⟩ (OwnA.cons ⟨_, c1, rfl, b⟩ (ownIB c d) ?_) ?_
  · intro g hg hm
    obtain ⟨v, hv, he⟩ := List.mem_filterMap.1 hm
    simp only [List.mem_cons, List.not_mem_nil, or_false] at hv
    rcases hv with rfl | rfl
    · exact h12 ((blk hg).symm.trans (blk he))
    · exact far b hg he
  · intro g hg hm
    obtain ⟨v, hv, he⟩ := List.mem_filterMap.1 hm
    simp only [List.mem_cons, List.not_mem_nil, or_false] at hv
    rcases hv with rfl | rfl | rfl
    · exact h01 ((blk hg).symm.trans (blk he))
    · exact h02 ((blk hg).symm.trans (blk he))
    · exact far a hg he
theorem made_own {w : World} {b n L R : Nat} (h : Box w b 3 (madeCells #[.int .i64 0] n)) (hl : L ≤ b) (hr : b < R) : OwnI w L R (some ⟨b, 0, none⟩) (List.replicate n 0) :=
  .inr ⟨b, n, fun _ => .int .i64 0, rfl, hl, hr, by simp, made_row h, fun i hi => by
    rw [List.getD_eq_getElem?_getD, List.getElem?_replicate, if_pos (by simpa using hi)]; rfl⟩
theorem made_size (n : Nat) : (madeCells #[Value.int .i64 0] n).size = n := by simp [madeCells]
theorem made_ne {w : World} {b b1 n m : Nat} (h : Box w b 3 (madeCells #[.int .i64 0] n)) (k : Box w b1 3 (madeCells #[.int .i64 0] m)) (hne : n ≠ m) : b ≠ b1 := by
  rintro rfl
  have q : some (Obj.cells (madeCells #[.int .i64 0] n) 3 (0, 0)) = some (Obj.cells (madeCells #[.int .i64 0] m) 3 (0, 0)) := h.symm.trans k
  injection q with q
  injection q with q
  exact hne (by rw [← made_size n, q, made_size])
theorem ownI_blk {w : World} {L R : Nat} {A : Option Addr} {zs : List Int} (h : OwnI w L R A zs) (hn : 0 < zs.length) : ∃ ba, A = some ⟨ba, 0, none⟩ ∧ L ≤ ba ∧ ba < R ∧ w.cell? ⟨ba, 0, none⟩ = some (.int .i64 (zs.getD 0 0)) := by
  obtain ⟨b, m, f, e, hc, _, h1, h2, _, _⟩ := h.put 0 hn
  exact ⟨b, e, h1, h2, hc⟩
theorem made_row_ne {w : World} {b ba n : Nat} {x : Int} (h : Box w b 3 (madeCells #[.int .i64 0] n)) (hn : 0 < n) (hc : w.cell? ⟨ba, 0, none⟩ = some (.int .i64 x)) (hx : x ≠ 0) : b ≠ ba := by
  rintro rfl
  have := (made_row h).cell hn
  rw [this] at hc
  injection hc with hc
  injection hc with _ hc
  exact hx hc.symm

/-- copy of a row into a row of the call's own: nothing but that block turns. -/
theorem wpList_copy_btw {P : Program} {w : World} {ops : Array Oper} {rest : List Oper} {o : Oper} {a : Act} {Q : Exit → Act → World → Prop} (hgd : o.guard = none) (d s : Operand) (dT sT : TypeId)
    (ho : o.op = .call { callee := .builtin .copy, args := #[d, s], argTypes := #[dT, sT] }) (elem : TypeId) (hu : P.underlying dT = some (.slice elem)) (hsz : (P.info? elem).map (·.size) = some 1)
    (dp sp : Option Addr) (dLen dCap sLen sCap : Nat) (hd : a.eval d = .slice dp dLen dCap) (hs : a.eval s = .slice sp sLen sCap)
    (g off : Nat) (cur : List Value) (t : TypeId) (hg : w.heap[g]? = some (.cells cur.toArray t (0, 0))) (cs : List Value) (hn : cs.length = Nat.min sLen dLen)
    (hpos : 0 < cs.length → dp = some ⟨g, off, none⟩ ∧ ∃ ad, sp = some ad ∧ ∀ j v, cs[j]? = some v → w.cell? (ad.add j) = some v)
    (hfit : off + cs.length ≤ cur.length) (h1 : ∀ v ∈ cs, v.oneCell' = true)
    (h : ∀ w', Hid (w'.heap[g]? = some (.cells (splice cur off cs).toArray t (0, 0))) → Btw g (g + 1) w w' → w'.heap.size = w.heap.size → wpList P ops Q rest (a.put o.dst (goInt cs.length)) w') :
    wpList P ops Q (o :: rest) a w := by
  by_cases h0 : cs.length = 0
  · obtain rfl : cs = [] := List.eq_nil_of_length_eq_zero h0
    refine wpList_copy_nothing hgd d s dT sT ho elem hu hsz dp sp dLen dCap sLen sCap hd hs (by simpa using hn.symm) ?_
    exact h w (show _ = _ by simpa [splice] using hg) (Btw.refl _ _ _) rfl
  · obtain ⟨rfl, ad, rfl, hsrc⟩ := hpos (by omega)
    refine wpList_copy_own hgd d s dT sT ho elem hu hsz g off dLen dCap ad sLen sCap hd hs cur.toArray t hg cs hn hsrc (by simpa using hfit) h1 ?_
    exact h _ (show _ = _ by simpa [splice] using setRow_heap w g _ _ t _ hg) ⟨rfl, rfl, rfl, by simp [World.setRow], fun k _ hk => setRow_other w g k _ (by omega)⟩ (by simp [World.setRow])
theorem ownI_spliced {w w' : World} {L R b : Nat} {zs p : List Int} {m : Nat} {f : Nat → Value} {cur : List Value} (hr : w.rowIs b 3 m f) (hcur : w.heap[b]? = some (.cells cur.toArray 3 (0, 0))) (hm : zs.length ≤ m) (hf : ∀ i, i < zs.length → f i = .int .i64 (zs.getD i 0)) (hp : p.length ≤ zs.length) (hl : L ≤ b) (hR : b < R)
    (h : w'.heap[b]? = some (.cells (splice cur 0 (cellsI p)).toArray 3 (0, 0))) (qs : List Int) (hq : qs.length = zs.length) (hqi : ∀ i, i < qs.length → qs.getD i 0 = if i < p.length then p.getD i 0 else zs.getD i 0) : OwnI w' L R (some ⟨b, 0, none⟩) qs := by
  obtain ⟨cs, hc, hs, hi⟩ := hr
  have e : cs = cur.toArray := by
    have := hc.symm.trans hcur
    injection this with this
    injection this
  subst e
  have hcl : cur.length = m := by simpa using hs
  have hsl : (splice cur 0 (cellsI p)).length = m := by rw [length_splice _ _ _ (by rw [cellsI_len]; omega)]; exact hcl
  refine .inr ⟨b, m, fun i => (splice cur 0 (cellsI p)).getD i undef, rfl, hl, hR, by omega, ⟨_, h, by simpa using hsl, fun i hi' => ?_⟩, fun i hi' => ?_⟩
  · show _ = some ((splice cur 0 (cellsI p)).getD i undef)
    rw [List.getElem?_toArray, List.getD_eq_getElem?_getD, List.getElem?_eq_getElem (by omega)]; rfl
  · show (splice cur 0 (cellsI p)).getD i undef = _
    rw [hqi i hi', List.getD_eq_getElem?_getD]
    unfold splice
    rw [List.take_zero, List.nil_append, Nat.zero_add]
    by_cases q : i < p.length
    · rw [if_pos q, List.getElem?_append_left (by rw [cellsI_len]; exact q)]
      unfold cellsI
      rw [List.getElem?_map, List.getD_eq_getElem?_getD, List.getElem?_eq_getElem q]
      rfl
    · rw [if_neg q, List.getElem?_append_right (by rw [cellsI_len]; omega), List.getElem?_drop, cellsI_len, show p.length + (i - p.length) = i by omega]
      have := hi i (by omega)
      rw [List.getElem?_toArray] at this
      rw [this, ← hf i (by omega)]
      rfl
set_option maxRecDepth 100000 in
theorem szInt : (Try.prog.info? 3).map (·.size) = some 1 := by kernel_rfl
theorem arr21n (T : Array Value) (h : T.size = 21) : ∃ t0 t1 t2 t3 t4 t5 t6 t7 t8 t9 t10 t11 t12 t13 t14 t15 t16 t17 t18 t19 t20 : Value, T = #[t0, t1, t2, t3, t4, t5, t6, t7, t8, t9, t10, t11, t12, t13, t14, t15, t16, t17, t18, t19, t20] := by
  obtain ⟨l⟩ := T
  match l, h with
  | [t0, t1, t2, t3, t4, t5, t6, t7, t8, t9, t10, t11, t12, t13, t14, t15, t16, t17, t18, t19, t20], _ => exact ⟨t0, t1, t2, t3, t4, t5, t6, t7, t8, t9, t10, t11, t12, t13, t14, t15, t16, t17, t18, t19, t20, rfl⟩

def newiF (M S : Nat) (fl : Value) (s2 s3 : Value) : Nat → (Nat → Value) → World → Prop
  | 0, t, w => ∃ b, t 17 = .slice (some ⟨b, 0, none⟩) 256 256 ∧ Box w b 3 (madeCells #[.int .i64 0] 256) ∧ S ≤ b
  | 1, t, w => ∃ b, t 18 = .slice (some ⟨b, 0, none⟩) 32 32 ∧ Box w b 3 (madeCells #[.int .i64 0] 32) ∧ S ≤ b
  | 2, t, _ => t 19 = fl
  | 3, t, _ => ∃ b b1, t 17 = .slice (some ⟨b, 0, none⟩) 256 256 ∧ t 18 = .slice (some ⟨b1, 0, none⟩) 32 32 ∧ t 20 = .agg #[.slice (some ⟨b, 0, none⟩) 256 256, .slice (some ⟨b1, 0, none⟩) 32 32, s2, s3, .int .i64 0]
  | 4, t, w => ∃ b b1, t 17 = .slice (some ⟨b, 0, none⟩) 256 256 ∧ t 18 = .slice (some ⟨b1, 0, none⟩) 32 32 ∧ Box w M 45 #[.slice (some ⟨b, 0, none⟩) 256 256, .slice (some ⟨b1, 0, none⟩) 32 32, s2, s3, .int .i64 0]
  | 5, t, _ => t 3 = .int .i64 0
  | _, _, _ => True
section
variable {M S : Nat} {fl s2 s3 : Value} {w w' : World}
theorem newiF_below (k : Below w.heap.size w w') : ∀ (j : Nat) (t : Nat → Value), newiF M S fl s2 s3 j t w → newiF M S fl s2 s3 j t w'
  | 2, _, h | 3, _, h | 5, _, h => h
  | 0, _, ⟨b, e, h, q⟩ => ⟨b, e, h.step k, q⟩
  | 1, _, ⟨b, e, h, q⟩ => ⟨b, e, h.step k, q⟩
  | 4, _, ⟨b, b1, e, e2, h⟩ => ⟨b, b1, e, e2, h.step k⟩
  | _ + 6, _, _ => trivial
theorem newiF_store {ys : Array Value} (Y : Box w M 45 ys) (i : Nat) (u : Value) : ∀ (j : Nat) (t : Nat → Value), j ≠ 4 → newiF M S fl s2 s3 j t w → newiF M S fl s2 s3 j t (w.setCell ⟨M, i, none⟩ u)
  | 2, _, _, h | 3, _, _, h | 5, _, _, h => h
  | 0, _, _, ⟨b, e, h, q⟩ => ⟨b, e, h.far (p := ⟨M, i, none⟩) (h.box_ne Y (by decide)) u, q⟩
  | 1, _, _, ⟨b, e, h, q⟩ => ⟨b, e, h.far (p := ⟨M, i, none⟩) (h.box_ne Y (by decide)) u, q⟩
  | 4, _, n, _ => (n rfl).elim
  | _ + 6, _, _, _ => trivial
end
def RN (W3 : World) (m : Nat) (W : World) : Prop := Btw m (m + 1) W3 W ∧ ∃ cs : Array Value, cs.size = 5 ∧ Box W m 45 cs
theorem RN.alloc {W3 W : World} {m : Nat} (h : RN W3 m W) (o : Obj) : RN W3 m (W.alloc o) := by
  obtain ⟨a, cs, hs, b⟩ := h
  exact ⟨a.alloc o, cs, hs, b.alloc o⟩
theorem RN.set {W3 W : World} {m : Nat} (h : RN W3 m W) (j : Nat) (v : Value) : RN W3 m (W.setCell ⟨m, j, none⟩ v) := by
  obtain ⟨a, cs, hs, b⟩ := h
  exact ⟨a.setCell (p := ⟨m, j, none⟩) (Nat.le_refl _) (Nat.lt_succ_self _) v, _, by simpa using hs, b.set j v⟩
theorem OwnI.awayM {w w' : World} {lo hi b : Nat} {A : Option Addr} {zs : List Int} {cs : Array Value} (h : OwnI w lo hi A zs) (X : Box w b 45 cs) (hb : Btw b (b + 1) w w') : OwnI w' lo hi A zs := h.awayB X (by decide) hb
theorem OwnB.awayM {w w' : World} {lo hi b : Nat} {A : Option Addr} {gs : List Bool} {cs : Array Value} (h : OwnB w lo hi A gs) (X : Box w b 45 cs) (hb : Btw b (b + 1) w w') : OwnB w' lo hi A gs := by
  rcases h with e | ⟨g, m, f, e, h1, h2, hm, hr, hf⟩
  · exact .inl e
  · exact .inr ⟨g, m, f, e, h1, h2, hm, hb.row hr (by have := X.ne hr (by decide); omega), hf⟩

end Go.Proofs.Ytieljgoodmoacaa
