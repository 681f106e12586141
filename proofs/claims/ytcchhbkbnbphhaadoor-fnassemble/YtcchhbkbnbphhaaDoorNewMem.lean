/- NewMem on both sides. Written by gen_newmem.py. -/
import Derived.Test.YtcchhbkbnbphhaaDoorM8
import Derived.Test.YtcchhbkbnbphhaaDoorM5
namespace Go.Proofs.YtcchhbkbnbphhaaDoor
open Go.RowKit

def progZ (p : List Int) (j : Nat) : List Int := (List.range 256).map fun i => if i < j then p.getD i 0 else 255
theorem progZ_len (p : List Int) (j : Nat) : (progZ p j).length = 256 := by simp [progZ]
theorem progZ_at (p : List Int) (j i : Nat) (h : i < 256) : (progZ p j).getD i 0 = if i < j then p.getD i 0 else 255 := by
  unfold progZ
  rw [List.getD_eq_getElem?_getD, List.getElem?_map, List.getElem?_range h]
  rfl
def zR : List Int := List.replicate 256 0
def zI : List Int := List.replicate 32 0
theorem zR_len : zR.length = 256 := List.length_replicate
theorem zI_len : zI.length = 32 := List.length_replicate
def newCode (p : List Int) : Int := if 4096 < p.length then 2 else if 256 < p.length then 8 else if p.all byB = true then 0 else 4
def newF (p : List Int) : List Int × List Int × List Int × List Bool × Int × Int := if newCode p = 0 then (zR, zI, progZ p p.length, zG, 0, 0) else ([], [], [], [], 0, newCode p)
theorem newCode0 {p : List Int} (h : newCode p = 0) : p.length ≤ 256 ∧ p.all byB = true := by
  unfold newCode at h
  split at h
  · omega
  · split at h
    · omega
    · split at h
      · exact ⟨by omega, by assumption⟩
      · omega
theorem ownA4b {w : World} {L R b0 b1 b2 : Nat} {C : Option Addr} {c0 c1 c2 c3 : Nat} {d0 d1 d2 : List Int} {d3 : List Bool} (a : OwnI w L R (some ⟨b0, 0, none⟩) d0) (b : OwnI w L R (some ⟨b1, 0, none⟩) d1) (c : OwnI w L R (some ⟨b2, 0, none⟩) d2) (d : OwnB w L R C d3) (h01 : b0 ≠ b1) (h02 : b0 ≠ b2) (h12 : b1 ≠ b2) :
    OwnA w L R [.slice (some ⟨b0, 0, none⟩) d0.length c0, .slice (some ⟨b1, 0, none⟩) d1.length c1, .slice (some ⟨b2, 0, none⟩) d2.length c2, .slice C d3.length c3] [.I d0, .I d1, .I d2, .B d3] := by
  have blk : ∀ {g n k b : Nat}, blkL (.slice (some ⟨g, 0, none⟩) n k) = some b → b = g := by
    intro g n k b h
    rcases Nat.eq_zero_or_pos n with hz | hz
    · rw [hz, blkL_zero] at h; cases h
    · rw [blkL_some hz] at h; injection h with h; exact h.symm
  have far : ∀ {g : Nat} {dd : List Int} {k kk b : Nat}, OwnI w L R (some ⟨g, 0, none⟩) dd → blkL (.slice (some ⟨g, 0, none⟩) dd.length k) = some b → blkL (.slice C d3.length kk) = some b → False := by
    intro g dd k kk b h h1 h2
    obtain ⟨m, f, hr⟩ := h.rowOf h1
    obtain ⟨m', f', hr'⟩ := d.rowOf h2
    exact row_ne hr hr' (by decide) rfl
  refine OwnA.cons ⟨_, c0, rfl, a⟩ (OwnA.cons ⟨_, c1, rfl, b⟩ (ownIB c d) ?_) ?_
  · intro g hg hm
    obtain ⟨v, hv, he⟩ := List.mem_filterMap.1 hm
    simp only [List.mem_cons, List.not_mem_nil, or_false] at hv
    rcases hv with rfl | rfl
    · exact h12 ((blk hg).symm.trans (blk he))
    · exact far b hg he
  · intro g hg hm
    obtain ⟨v, hv, he⟩ := List.mem_filterMap.1 hm
    simp only [List.mem_cons, List.not_mem_nil, or_false] at hv
    rcases hv with rfl | rfl | rfl
    · exact h01 ((blk hg).symm.trans (blk he))
    · exact h02 ((blk hg).symm.trans (blk he))
    · exact far a hg he
theorem made_own {w : World} {b n L R : Nat} (h : Box w b 3 (madeCells #[.int .i64 0] n)) (hl : L ≤ b) (hr : b < R) : OwnI w L R (some ⟨b, 0, none⟩) (List.replicate n 0) :=
  .inr ⟨b, n, fun _ => .int .i64 0, rfl, hl, hr, by simp, made_row h, fun i hi => by
    rw [List.getD_eq_getElem?_getD, List.getElem?_replicate, if_pos (by simpa using hi)]; rfl⟩
theorem made_size (n : Nat) : (madeCells #[Value.int .i64 0] n).size = n := by simp [madeCells]
theorem made_ne {w : World} {b b1 n m : Nat} (h : Box w b 3 (madeCells #[.int .i64 0] n)) (k : Box w b1 3 (madeCells #[.int .i64 0] m)) (hne : n ≠ m) : b ≠ b1 := by
  rintro rfl
  have q : some (Obj.cells (madeCells #[.int .i64 0] n) 3 (0, 0)) = some (Obj.cells (madeCells #[.int .i64 0] m) 3 (0, 0)) := h.symm.trans k
  injection q with q
  injection q with q
  exact hne (by rw [← made_size n, q, made_size])
set_option maxRecDepth 100000 in
theorem checkProgram (A : Option Addr) (n c : Nat) (p : List Int) (w : World) (hl : p.length = n) (hn : n ≤ maxLen) (h : IntL w A p) :
    Calls Tryd.prog 40 #[.slice A n c] w fun e w' => e = .returned (.int .i64 (newCode p)) ∧ w = w' := by
  have HB := Lib.hid (allBytes A n c p w hl hn h)
  have HL := Lib.hid hl
  unfold maxLen at hn
  obtain ⟨r, hr⟩ : ∃ r, newCode p = r := ⟨_, rfl⟩
  rw [hr]
  have HR := Lib.hid hr
  clear hl h hr
  by_cases h1 : 4096 < n
  · have HE : Hid (r = 2) := Lib.hid (by rw [← HR.out]; unfold newCode; rw [HL.out, if_pos h1])
    have q1 : (4096 : Int) < (n : Int) := by omega
    go_enter Tryd.func40, Tryd.ntmps40
    go_wp2
    go_ret
    exact ⟨ret_int HE.out.symm, rfl⟩
  · have q1 : ¬ (4096 : Int) < (n : Int) := by omega
    by_cases h2 : 256 < n
    · have HE : Hid (r = 8) := Lib.hid (by rw [← HR.out]; unfold newCode; rw [HL.out, if_neg h1, if_pos h2])
      have q2 : (256 : Int) < (n : Int) := by omega
      go_enter Tryd.func40, Tryd.ntmps40
      go_wp2
      go_ret
      exact ⟨ret_int HE.out.symm, rfl⟩
    · have q2 : ¬ (256 : Int) < (n : Int) := by omega
      have HE : Hid (r = if p.all byB = true then 0 else 4) := Lib.hid (by rw [← HR.out]; unfold newCode; rw [HL.out, if_neg h1, if_neg h2])
      generalize p.all byB = ab at HB HE
      clear h1 h2
      cases ab
      · go_enter Tryd.func40, Tryd.ntmps40
        go_wp2_with (first | (go_at_call 54; refine HB.out.mono ?_; rintro e w' ⟨rfl, rfl⟩))
        go_ret
        exact ⟨ret_int HE.out.symm, rfl⟩
      · go_enter Tryd.func40, Tryd.ntmps40
        go_wp2_with (first | (go_at_call 54; refine HB.out.mono ?_; rintro e w' ⟨rfl, rfl⟩))
        go_ret
        exact ⟨ret_int HE.out.symm, rfl⟩

theorem wpList_copy_btw {P : Program} {w : World} {ops : Array Oper} {rest : List Oper} {o : Oper} {a : Act} {Q : Exit → Act → World → Prop} (hgd : o.guard = none) (d s : Operand) (dT sT : TypeId)
    (ho : o.op = .call { callee := .builtin .copy, args := #[d, s], argTypes := #[dT, sT] }) (elem : TypeId) (hu : P.underlying dT = some (.slice elem)) (hsz : (P.info? elem).map (·.size) = some 1)
    (dp sp : Option Addr) (dLen dCap sLen sCap : Nat) (hd : a.eval d = .slice dp dLen dCap) (hs : a.eval s = .slice sp sLen sCap)
    (g off : Nat) (cur : List Value) (t : TypeId) (hg : w.heap[g]? = some (.cells cur.toArray t (0, 0))) (cs : List Value) (hn : cs.length = Nat.min sLen dLen)
    (hpos : 0 < cs.length → dp = some ⟨g, off, none⟩ ∧ ∃ ad, sp = some ad ∧ ∀ j v, cs[j]? = some v → w.cell? (ad.add j) = some v)
    (hfit : off + cs.length ≤ cur.length) (h1 : ∀ v ∈ cs, v.oneCell' = true)
    (h : ∀ w', Hid (w'.heap[g]? = some (.cells (splice cur off cs).toArray t (0, 0))) → Btw g (g + 1) w w' → w'.heap.size = w.heap.size → wpList P ops Q rest (a.put o.dst (goInt cs.length)) w') :
    wpList P ops Q (o :: rest) a w := by
  by_cases h0 : cs.length = 0
  · obtain rfl : cs = [] := List.eq_nil_of_length_eq_zero h0
    refine wpList_copy_nothing hgd d s dT sT ho elem hu hsz dp sp dLen dCap sLen sCap hd hs (by simpa using hn.symm) ?_
    exact h w (show _ = _ by simpa [splice] using hg) (Btw.refl _ _ _) rfl
  · obtain ⟨rfl, ad, rfl, hsrc⟩ := hpos (by omega)
    refine wpList_copy_own hgd d s dT sT ho elem hu hsz g off dLen dCap ad sLen sCap hd hs cur.toArray t hg cs hn hsrc (by simpa using hfit) h1 ?_
    exact h _ (show _ = _ by simpa [splice] using setRow_heap w g _ _ t _ hg) ⟨rfl, rfl, rfl, by simp [World.setRow], fun k _ hk => setRow_other w g k _ (by omega)⟩ (by simp [World.setRow])
theorem ownI_spliced {w w' : World} {L R b : Nat} {zs p : List Int} {m : Nat} {f : Nat → Value} {cur : List Value} (hr : w.rowIs b 3 m f) (hcur : w.heap[b]? = some (.cells cur.toArray 3 (0, 0))) (hm : zs.length ≤ m) (hf : ∀ i, i < zs.length → f i = .int .i64 (zs.getD i 0)) (hp : p.length ≤ zs.length) (hl : L ≤ b) (hR : b < R)
    (h : w'.heap[b]? = some (.cells (splice cur 0 (cellsI p)).toArray 3 (0, 0))) (qs : List Int) (hq : qs.length = zs.length) (hqi : ∀ i, i < qs.length → qs.getD i 0 = if i < p.length then p.getD i 0 else zs.getD i 0) : OwnI w' L R (some ⟨b, 0, none⟩) qs := by
  obtain ⟨cs, hc, hs, hi⟩ := hr
  have e : cs = cur.toArray := by
    have := hc.symm.trans hcur
    injection this with this
    injection this
  subst e
  have hcl : cur.length = m := by simpa using hs
  have hsl : (splice cur 0 (cellsI p)).length = m := by rw [length_splice _ _ _ (by rw [cellsI_len]; omega)]; exact hcl
  refine .inr ⟨b, m, fun i => (splice cur 0 (cellsI p)).getD i undef, rfl, hl, hR, by omega, ⟨_, h, by simpa using hsl, fun i hi' => ?_⟩, fun i hi' => ?_⟩
  · show _ = some ((splice cur 0 (cellsI p)).getD i undef)
    rw [List.getElem?_toArray, List.getD_eq_getElem?_getD, List.getElem?_eq_getElem (by omega)]; rfl
  · show (splice cur 0 (cellsI p)).getD i undef = _
    rw [hqi i hi', List.getD_eq_getElem?_getD]
    unfold splice
    rw [List.take_zero, List.nil_append, Nat.zero_add]
    by_cases q : i < p.length
    · rw [if_pos q, List.getElem?_append_left (by rw [cellsI_len]; exact q)]
      unfold cellsI
      rw [List.getElem?_map, List.getD_eq_getElem?_getD, List.getElem?_eq_getElem q]
      rfl
    · rw [if_neg q, List.getElem?_append_right (by rw [cellsI_len]; omega), List.getElem?_drop, cellsI_len, show p.length + (i - p.length) = i by omega]
      have := hi i (by omega)
      rw [List.getElem?_toArray] at this
      rw [this, ← hf i (by omega)]
      rfl
set_option maxRecDepth 100000 in
theorem szInt : (Tryd.prog.info? 3).map (·.size) = some 1 := by kernel_rfl
theorem arr21n (T : Array Value) (h : T.size = 21) : ∃ t0 t1 t2 t3 t4 t5 t6 t7 t8 t9 t10 t11 t12 t13 t14 t15 t16 t17 t18 t19 t20 : Value, T = #[t0, t1, t2, t3, t4, t5, t6, t7, t8, t9, t10, t11, t12, t13, t14, t15, t16, t17, t18, t19, t20] := by
  obtain ⟨l⟩ := T
  match l, h with
  | [t0, t1, t2, t3, t4, t5, t6, t7, t8, t9, t10, t11, t12, t13, t14, t15, t16, t17, t18, t19, t20], _ => exact ⟨t0, t1, t2, t3, t4, t5, t6, t7, t8, t9, t10, t11, t12, t13, t14, t15, t16, t17, t18, t19, t20, rfl⟩

def newiF (M S : Nat) (fl : Value) (s2 s3 : Value) : Nat → (Nat → Value) → World → Prop
  | 0, t, w => ∃ b, t 17 = .slice (some ⟨b, 0, none⟩) 256 256 ∧ Box w b 3 (madeCells #[.int .i64 0] 256) ∧ S ≤ b
  | 1, t, w => ∃ b, t 18 = .slice (some ⟨b, 0, none⟩) 32 32 ∧ Box w b 3 (madeCells #[.int .i64 0] 32) ∧ S ≤ b
  | 2, t, _ => t 19 = fl
  | 3, t, _ => ∃ b b1, t 17 = .slice (some ⟨b, 0, none⟩) 256 256 ∧ t 18 = .slice (some ⟨b1, 0, none⟩) 32 32 ∧ t 20 = .agg #[.slice (some ⟨b, 0, none⟩) 256 256, .slice (some ⟨b1, 0, none⟩) 32 32, s2, s3, .int .i64 0]
  | 4, t, w => ∃ b b1, t 17 = .slice (some ⟨b, 0, none⟩) 256 256 ∧ t 18 = .slice (some ⟨b1, 0, none⟩) 32 32 ∧ Box w M 46 #[.slice (some ⟨b, 0, none⟩) 256 256, .slice (some ⟨b1, 0, none⟩) 32 32, s2, s3, .int .i64 0]
  | 5, t, _ => t 3 = .int .i64 0
  | _, _, _ => True
section
variable {M S : Nat} {fl s2 s3 : Value} {w w' : World}
theorem newiF_below (k : Below w.heap.size w w') : ∀ (j : Nat) (t : Nat → Value), newiF M S fl s2 s3 j t w → newiF M S fl s2 s3 j t w'
  | 2, _, h | 3, _, h | 5, _, h => h
  | 0, _, ⟨b, e, h, q⟩ => ⟨b, e, h.step k, q⟩
  | 1, _, ⟨b, e, h, q⟩ => ⟨b, e, h.step k, q⟩
  | 4, _, ⟨b, b1, e, e2, h⟩ => ⟨b, b1, e, e2, h.step k⟩
  | _ + 6, _, _ => trivial
theorem newiF_store {ys : Array Value} (Y : Box w M 46 ys) (i : Nat) (u : Value) : ∀ (j : Nat) (t : Nat → Value), j ≠ 4 → newiF M S fl s2 s3 j t w → newiF M S fl s2 s3 j t (w.setCell ⟨M, i, none⟩ u)
  | 2, _, _, h | 3, _, _, h | 5, _, _, h => h
  | 0, _, _, ⟨b, e, h, q⟩ => ⟨b, e, h.far (p := ⟨M, i, none⟩) (h.box_ne Y (by decide)) u, q⟩
  | 1, _, _, ⟨b, e, h, q⟩ => ⟨b, e, h.far (p := ⟨M, i, none⟩) (h.box_ne Y (by decide)) u, q⟩
  | 4, _, n, _ => (n rfl).elim
  | _ + 6, _, _, _ => trivial
end
def RN (W3 : World) (m : Nat) (W : World) : Prop := Btw m (m + 1) W3 W ∧ ∃ cs : Array Value, cs.size = 5 ∧ Box W m 46 cs
theorem RN.alloc {W3 W : World} {m : Nat} (h : RN W3 m W) (o : Obj) : RN W3 m (W.alloc o) := by
  obtain ⟨a, cs, hs, b⟩ := h
  exact ⟨a.alloc o, cs, hs, b.alloc o⟩
theorem RN.set {W3 W : World} {m : Nat} (h : RN W3 m W) (j : Nat) (v : Value) : RN W3 m (W.setCell ⟨m, j, none⟩ v) := by
  obtain ⟨a, cs, hs, b⟩ := h
  exact ⟨a.setCell (p := ⟨m, j, none⟩) (Nat.le_refl _) (Nat.lt_succ_self _) v, _, by simpa using hs, b.set j v⟩
theorem OwnI.awayM {w w' : World} {lo hi b : Nat} {A : Option Addr} {zs : List Int} {cs : Array Value} (h : OwnI w lo hi A zs) (X : Box w b 46 cs) (hb : Btw b (b + 1) w w') : OwnI w' lo hi A zs := h.awayB X (by decide) hb
theorem OwnB.awayM {w w' : World} {lo hi b : Nat} {A : Option Addr} {gs : List Bool} {cs : Array Value} (h : OwnB w lo hi A gs) (X : Box w b 46 cs) (hb : Btw b (b + 1) w w') : OwnB w' lo hi A gs := by
  rcases h with e | ⟨g, m, f, e, h1, h2, hm, hr, hf⟩
  · exact .inl e
  · exact .inr ⟨g, m, f, e, h1, h2, hm, hb.row hr (by have := X.ne hr (by decide); omega), hf⟩

def GivesMemCodeC (r i zs : List Int) (gs : List Bool) (st code : Int) (w : World) (e : Ending) (w' : World) : Prop :=
  ∃ A0 A1 A2 A3 c0 c1 c2 c3, e = .returned (.tuple #[.agg #[.slice A0 r.length c0, .slice A1 i.length c1, .slice A2 zs.length c2, .slice A3 gs.length c3, .int .i64 st], .int .i64 code]) ∧ Hid (OwnA w' w.heap.size w'.heap.size [.slice A0 r.length c0, .slice A1 i.length c1, .slice A2 zs.length c2, .slice A3 gs.length c3] [.I r, .I i, .I zs, .B gs]) ∧ Hid (zs.length ≤ c2) ∧ Below w.heap.size w w'
theorem GivesMemCodeC.plain {r i zs : List Int} {gs : List Bool} {st code : Int} {w : World} {e : Ending} {w' : World} : GivesMemCodeC r i zs gs st code w e w' → GivesMemCode r i zs gs st code w e w' := by
  rintro ⟨A0, A1, A2, A3, c0, c1, c2, c3, h, O, _, hb⟩
  exact ⟨A0, A1, A2, A3, c0, c1, c2, c3, h, O, hb⟩
set_option maxRecDepth 100000 in
set_option maxHeartbeats 8000000 in
theorem implNewMemC (A0 : Option Addr) (n c0 : Nat) (p : List Int) (w : World) (hl : p.length = n) (hn : n ≤ maxLen) (h : IntL w A0 p) :
    Calls Tryd.prog 19 #[.slice A0 n c0] w (GivesMemCodeC (newF p).1 (newF p).2.1 (newF p).2.2.1 (newF p).2.2.2.1 (newF p).2.2.2.2.1 (newF p).2.2.2.2.2 w) := by
  obtain ⟨W0, hW0⟩ : ∃ W0, W0 = (w.alloc (.cells #[.slice none 0 0, .slice none 0 0, .slice none 0 0, .slice none 0 0, .int .i64 0] 46)) := ⟨_, rfl⟩
  have hb0 : Below w.heap.size w W0 := by rw [hW0]; exact alloc_below _ _
  have Y0 : Hid (Box W0 w.heap.size 46 #[.slice none 0 0, .slice none 0 0, .slice none 0 0, .slice none 0 0, .int .i64 0]) := Lib.hid (by rw [hW0]; exact Box.new _ _ _)
  have HC := Lib.hid (checkProgram A0 n c0 p W0 hl hn (h.below hb0))
  have HN := Lib.hid (implNewFlashC W0)
  have H := Lib.hid (And.intro hl h)
  obtain ⟨r, hr⟩ : ∃ r, newF p = r := ⟨_, rfl⟩
  rw [hr]
  have HR : Hid (r = if newCode p = 0 then (zR, zI, progZ p p.length, zG, 0, 0) else ([], [], [], [], 0, newCode p)) := Lib.hid hr.symm
  have HK0 : Hid (newCode p = 0 → p.length ≤ 256) := Lib.hid (fun q => (newCode0 q).1)
  generalize newCode p = cd at HC HR HK0
  have HW0 := Lib.hid hW0
  have hs0 : W0.heap.size = w.heap.size + 1 := by rw [hW0]; simp
  have HS0 := Lib.hid hs0
  have HBb := Lib.hid hb0
  clear hl h hW0 hr hs0
  go_enter Tryd.func19, Tryd.ntmps19
  go_wp2_with fail
  rw [← HW0.out]
  refine HC.out.mono ?_
  rintro e w1 ⟨rfl, rfl⟩
  by_cases hz : cd = 0
  · subst hz
    have hp : p.length ≤ 256 := HK0.out rfl
    have HRz : Hid (r = (zR, zI, progZ p p.length, zG, 0, 0)) := Lib.hid (by rw [HR.out, if_pos rfl])
    clear HR HK0
    go_wp2_with fail
    refine HN.out.mono ?_
    rintro e w1 ⟨A, n1, c, C, m1, d, rfl, L1, M1, S1, R1, Q1, hb1⟩
    obtain rfl : n1 = 256 := by have := L1.out; have := newZ_len; omega
    obtain rfl : m1 = 16 := by have := M1.out; have := zG_len; omega
    obtain ⟨bf, hbf⟩ : ∃ bf, bf = w1.heap.size := ⟨_, rfl⟩
    obtain ⟨W2, hW2⟩ : ∃ W2, W2 = w1.alloc (.cells #[.slice A 256 c, .slice C 16 d, .int .i64 0] 44) := ⟨_, rfl⟩
    have hb2 : Below w1.heap.size w1 W2 := by rw [hW2]; exact alloc_below _ _
    have F2 : Box W2 bf 44 #[.slice A 256 c, .slice C 16 d, .int .i64 0] := by rw [hW2, hbf]; exact Box.new _ _ _
    have Y2 : Box W2 w.heap.size 46 #[.slice none 0 0, .slice none 0 0, .slice none 0 0, .slice none 0 0, .int .i64 0] := (Y0.out.step hb1).step hb2
    have S2 := S1.out.below hb2
    have R2 := R1.out.below hb2
    obtain e0 | ⟨ba, m, f, rfl, hlo, hhi, hm, hrow, hf⟩ : (newZ = [] ∨ ∃ ba m f, A = some ⟨ba, 0, none⟩ ∧ W0.heap.size ≤ ba ∧ ba < w1.heap.size ∧ newZ.length ≤ m ∧ W2.rowIs ba 3 m f ∧ ∀ i, i < newZ.length → f i = .int .i64 (newZ.getD i 0)) := S2
    · exact absurd (congrArg List.length e0) (by rw [newZ_len]; simp)
    obtain ⟨cur, hcl, hcur⟩ := row_heap hrow
    have hbW2 : Below w.heap.size w W2 := bt (bt hb0 hb1) hb2
    have f0 := F2.cell 0 rfl
    have HSrc : Hid (0 < (cellsI p).length → ∃ ad, A0 = some ad ∧ ∀ j v, (cellsI p)[j]? = some v → W2.cell? (ad.add j) = some v) := Lib.hid (fun q => (H.out.2.below hbW2).src (by rw [cellsI_len] at q; exact q))
    have HCl : Hid ((cellsI p).length = Nat.min n 256) := Lib.hid (by rw [cellsI_len, H.out.1]; have := H.out.1; exact (Nat.min_eq_left (by omega)).symm)
    have HFit : Hid (0 + (cellsI p).length ≤ cur.length) := Lib.hid (by rw [cellsI_len, hcl]; rw [newZ_len] at hm; omega)
    have HOne : Hid (∀ v ∈ cellsI p, v.oneCell' = true) := Lib.hid (fun v hv => by unfold cellsI at hv; obtain ⟨q, _, rfl⟩ := List.mem_map.1 hv; rfl)
    have HG := Lib.hid hcur
    have HNext : Hid (∀ w', w'.heap[ba]? = some (.cells (splice cur 0 (cellsI p)).toArray 3 (0, 0)) → OwnI w' W0.heap.size w1.heap.size (some ⟨ba, 0, none⟩) (progZ p p.length)) := Lib.hid (fun w' hw => ownI_spliced hrow hcur hm hf (by rw [newZ_len]; exact hp) hlo hhi hw _ (by rw [progZ_len, newZ_len]) (fun i hi => by
      rw [progZ_len] at hi
      rw [progZ_at _ _ _ hi]
      unfold newZ
      rw [List.getD_eq_getElem?_getD (l := List.replicate 256 255), List.getElem?_replicate, if_pos hi]; rfl))
    have HKeep := Lib.hid (And.intro F2 (And.intro Y2 (And.intro hrow R2)))
    have HBa : Hid (ba < w1.heap.size ∧ W2.heap.size = w1.heap.size + 1 ∧ bf = w1.heap.size) := Lib.hid ⟨hhi, by rw [hW2]; simp, hbf⟩
    have HW2 := Lib.hid hW2
    have HBW2 := Lib.hid hbW2
    rw [hW2] at f0
    rw [hbf] at f0
    have hlo2 : w.heap.size ≤ ba := by have := HS0.out; omega
    clear F2 Y2 R2 S1 R1 hrow hcur hcl hm hf hb2 hbf hW2 hbW2 hb1 L1 M1 hlo hhi
    go_wp2_with (first | (rw [← HW2.out]; with_reducible refine wpList_copy_btw rfl (.tmp 14) (.tmp 15) 26 26 rfl 3 Tryd.underlying26 szInt (some ⟨ba, 0, none⟩) A0 256 c n c0 rfl rfl ba 0 cur 3 HG.out (cellsI p) HCl.out (fun q => ⟨rfl, HSrc.out q⟩) HFit.out HOne.out ?_))
    intro W3 hg3 hb3 hsz3
    have F3 := HKeep.out.1.btw hb3 (by have := HKeep.out.1.ne HKeep.out.2.2.1 (by decide); omega)
    have Y3 := HKeep.out.2.1.btw hb3 (by have := HKeep.out.2.1.ne HKeep.out.2.2.1 (by decide); omega)
    have HO3 : Hid (OwnI W3 W0.heap.size w1.heap.size (some ⟨ba, 0, none⟩) (progZ p p.length) ∧ OwnB W3 W0.heap.size w1.heap.size C zG) := Lib.hid ⟨HNext.out _ hg3.out, by
      rcases HKeep.out.2.2.2 with e | ⟨g, m, f, e, h1, h2, hm, hr, hf⟩
      · exact .inl e
      · exact .inr ⟨g, m, f, e, h1, h2, hm, hb3.row hr (by have := row_ne hr HKeep.out.2.2.1 (by decide); omega), hf⟩⟩
    have HB3 : Hid (Below w.heap.size w W3) := Lib.hid (HBW2.out.trans ((hb3.below (by have := HBa.out; omega)).mono hlo2))
    have HBa3 : Hid (ba < W3.heap.size ∧ bf < W3.heap.size ∧ w1.heap.size ≤ W3.heap.size ∧ W0.heap.size ≤ ba) := Lib.hid ⟨by have := HBa.out; omega, by have := HBa.out; omega, by have := HBa.out; omega, by
      rcases HO3.out.1 with e | ⟨g, m, f, e, h1, h2, hm, hr, hf⟩
      · exact absurd (congrArg List.length e) (by rw [progZ_len]; simp)
      · injection e with e; injection e with e; omega⟩
    have HY3 := Lib.hid Y3
    have HF3 := Lib.hid F3
    have hbfe := HBa.out.2.2
    clear HBa
    have HBa := HBa3
    have R0 : RN W3 w.heap.size W3.drew := ⟨(Btw.refl _ _ _).drew, _, rfl, Y3⟩
    have HK : Hid (∀ W', RN W3 w.heap.size W' → W'.cell? ⟨bf, 0, none⟩ = some (.slice (some ⟨ba, 0, none⟩) 256 c) ∧ W'.cell? ⟨bf, 1, none⟩ = some (.slice C 16 d) ∧ W'.cell? ⟨bf, 2, none⟩ = some (.int .i64 0)) := Lib.hid (fun W' r => by
      have X := HF3.out.btw r.1 (by have := HF3.out.box_ne HY3.out (by decide); omega)
      exact ⟨X.cell 0 rfl, X.cell 1 rfl, X.cell 2 rfl⟩)
    have hmk0 : ∀ W : World, (Instr.makeSlice 26 (.int .i64 256) (.int .i64 256)).run Tryd.prog W = .ok (.slice (some ⟨W.heap.size, 0, none⟩) 256 256) (W.alloc (.cells (madeCells #[.int .i64 0] 256) 3)) := fun W => run_make_row' (P := Tryd.prog) 26 3 (.int .i64 0) 8 Tryd.underlying26 infoI rfl .i64 .i64 256 (by omega) (by omega) W
    have hmk1 : ∀ W : World, (Instr.makeSlice 26 (.int .i64 32) (.int .i64 32)).run Tryd.prog W = .ok (.slice (some ⟨W.heap.size, 0, none⟩) 32 32) (W.alloc (.cells (madeCells #[.int .i64 0] 32) 3)) := fun W => run_make_row' (P := Tryd.prog) 26 3 (.int .i64 0) 8 Tryd.underlying26 infoI rfl .i64 .i64 32 (by omega) (by omega) W
    clear f0 hg3 hb3 hsz3 F3 Y3 HKeep HNext HG HOne HFit HCl HSrc HW2 HBW2
    go_wp2
    rw [← hbfe]
    clear hbfe
    refine wp_region_facts (by kernel_rfl) [[17], [18], [19], [17, 18, 20], [17, 18], [3]] [[], [], [], [0, 1, 2], [0, 1, 2, 3], [4, 0, 1, 2, 3]] [0, 2, 5] (by kernel_rfl) (RN W3 w.heap.size) (newiF w.heap.size W3.heap.size (.agg #[.slice (some ⟨ba, 0, none⟩) 256 c, .slice C 16 d, .int .i64 0]) (.slice (some ⟨ba, 0, none⟩) 256 c) (.slice C 16 d)) R0 ?_ ?_
    · refine ⟨?_, ?_, ?_, ?_, ?_, ?_, trivial⟩
      · intro T W hT hs hC hF K hK
        obtain ⟨t0, t1, t2, t3, t4, t5, t6, t7, t8, t9, t10, t11, t12, t13, t14, t15, t16, t17, t18, t19, t20, rfl⟩ := arr21n T hT
        obtain rfl : t2 = .pointer (some ⟨w.heap.size, 0, none⟩) := hs 2 (by decide)
        obtain rfl : t5 = .pointer (some ⟨bf, 0, none⟩) := hs 5 (by decide)
        clear hF hs hT
        have k := alloc_below W (.cells (madeCells #[.int .i64 0] 256) 3)
        have hm := hmk0 W
        go_simp
        exact hK.out _ _ (hC.alloc _) (fun j t _ h => newiF_below k j t h) ⟨W.heap.size, rfl, Box.new _ _ _, hC.1.size⟩
      · intro T W hT hs hC hF K hK
        obtain ⟨t0, t1, t2, t3, t4, t5, t6, t7, t8, t9, t10, t11, t12, t13, t14, t15, t16, t17, t18, t19, t20, rfl⟩ := arr21n T hT
        obtain rfl : t2 = .pointer (some ⟨w.heap.size, 0, none⟩) := hs 2 (by decide)
        obtain rfl : t5 = .pointer (some ⟨bf, 0, none⟩) := hs 5 (by decide)
        clear hF hs hT
        have k := alloc_below W (.cells (madeCells #[.int .i64 0] 32) 3)
        have hm := hmk1 W
        go_simp
        exact hK.out _ _ (hC.alloc _) (fun j t _ h => newiF_below k j t h) ⟨W.heap.size, rfl, Box.new _ _ _, hC.1.size⟩
      · intro T W hT hs hC hF K hK
        obtain ⟨t0, t1, t2, t3, t4, t5, t6, t7, t8, t9, t10, t11, t12, t13, t14, t15, t16, t17, t18, t19, t20, rfl⟩ := arr21n T hT
        obtain rfl : t2 = .pointer (some ⟨w.heap.size, 0, none⟩) := hs 2 (by decide)
        obtain rfl : t5 = .pointer (some ⟨bf, 0, none⟩) := hs 5 (by decide)
        clear hF hs hT
        obtain ⟨k0, k1, k2⟩ := HK.out W hC
        go_simp
        exact hK.out _ W hC (fun _ _ _ h => h) rfl
      · intro T W hT hs hC hF K hK
        obtain ⟨t0, t1, t2, t3, t4, t5, t6, t7, t8, t9, t10, t11, t12, t13, t14, t15, t16, t17, t18, t19, t20, rfl⟩ := arr21n T hT
        obtain rfl : t2 = .pointer (some ⟨w.heap.size, 0, none⟩) := hs 2 (by decide)
        obtain rfl : t5 = .pointer (some ⟨bf, 0, none⟩) := hs 5 (by decide)
        have f0 := hF 0 (by decide)
        simp only [newiF, mask] at f0
        have f1 := hF 1 (by decide)
        simp only [newiF, mask] at f1
        have f2 := hF 2 (by decide)
        simp only [newiF, mask] at f2
        clear hF hs hT
        obtain ⟨b, e17, B0, q0⟩ := f0
        obtain ⟨b1, e18, B1, q1⟩ := f1
        subst e17 e18 f2
        clear B0 B1
        go_simp
        exact hK.out _ W hC (fun _ _ _ h => h) ⟨b, b1, rfl, rfl, rfl⟩
      · intro T W hT hs hC hF K hK
        obtain ⟨t0, t1, t2, t3, t4, t5, t6, t7, t8, t9, t10, t11, t12, t13, t14, t15, t16, t17, t18, t19, t20, rfl⟩ := arr21n T hT
        obtain rfl : t2 = .pointer (some ⟨w.heap.size, 0, none⟩) := hs 2 (by decide)
        obtain rfl : t5 = .pointer (some ⟨bf, 0, none⟩) := hs 5 (by decide)
        have f3 := hF 3 (by decide)
        simp only [newiF, mask] at f3
        clear hF hs hT
        obtain ⟨b, b1, e17, e18, e20⟩ := f3
        subst e17 e18 e20
        obtain ⟨hCa, ys, hys, Y⟩ := hC
        have y0 := YV5.of Y hys 0 (by omega)
        have y1 := YV5.of Y hys 1 (by omega)
        have y2 := YV5.of Y hys 2 (by omega)
        have y3 := YV5.of Y hys 3 (by omega)
        have y4 := YV5.of Y hys 4 (by omega)
        have z0 := Y.frozen 0
        have z1 := Y.frozen 1
        have z2 := Y.frozen 2
        have z3 := Y.frozen 3
        have z4 := Y.frozen 4
        have HYs := Lib.hid (And.intro hys Y)
        have hC : RN W3 w.heap.size W := ⟨hCa, ys, hys, Y⟩
        clear hys Y hCa
        go_simp
        exact hK.out undef _ (((((hC.set 0 _).set 1 _).set 2 _).set 3 _).set 4 _) (fun j t n h => newiF_store ((((HYs.out.2.set 0 _).set 1 _).set 2 _).set 3 _) 4 _ j t n (newiF_store (((HYs.out.2.set 0 _).set 1 _).set 2 _) 3 _ j t n (newiF_store ((HYs.out.2.set 0 _).set 1 _) 2 _ j t n (newiF_store (HYs.out.2.set 0 _) 1 _ j t n (newiF_store HYs.out.2 0 _ j t n h))))) ⟨b, b1, rfl, rfl, HYs.out.2.all5 HYs.out.1 _ _ _ _ _⟩
      · intro T W hT hs hC hF K hK
        obtain ⟨t0, t1, t2, t3, t4, t5, t6, t7, t8, t9, t10, t11, t12, t13, t14, t15, t16, t17, t18, t19, t20, rfl⟩ := arr21n T hT
        obtain rfl : t2 = .pointer (some ⟨w.heap.size, 0, none⟩) := hs 2 (by decide)
        obtain rfl : t5 = .pointer (some ⟨bf, 0, none⟩) := hs 5 (by decide)
        clear hF hs hT
        go_simp
        exact hK.out _ W hC (fun _ _ _ h => h) rfl
    · intro T W hT hs hC hF
      obtain ⟨t0, t1, t2, t3, t4, t5, t6, t7, t8, t9, t10, t11, t12, t13, t14, t15, t16, t17, t18, t19, t20, rfl⟩ := arr21n T hT
      obtain rfl : t2 = .pointer (some ⟨w.heap.size, 0, none⟩) := hs 2 (by decide)
      obtain rfl : t5 = .pointer (some ⟨bf, 0, none⟩) := hs 5 (by decide)
      obtain ⟨b, e17, B0, q0⟩ := hF 0 (by decide)
      obtain ⟨b1, e18, B1, q1⟩ := hF 1 (by decide)
      obtain ⟨b', b1', f17, f18, Y⟩ := hF 4 (by decide)
      have e3 : t3 = .int .i64 0 := hF 5 (by decide)
      have E1 : Value.slice (some ⟨b, 0, none⟩) 256 256 = .slice (some ⟨b', 0, none⟩) 256 256 := (show t17 = _ from e17).symm.trans f17
      have E2 : Value.slice (some ⟨b1, 0, none⟩) 32 32 = .slice (some ⟨b1', 0, none⟩) 32 32 := (show t18 = _ from e18).symm.trans f18
      obtain rfl : b = b' := by injection E1 with E1; injection E1 with E1; injection E1
      obtain rfl : b1 = b1' := by injection E2 with E2; injection E2 with E2; injection E2
      subst e3
      have y0 := Y.cell 0 rfl
      have y1 := Y.cell 1 rfl
      have y2 := Y.cell 2 rfl
      have y3 := Y.cell 3 rfl
      have y4 := Y.cell 4 rfl
      have HQ : Hid (w.heap.size ≤ W3.heap.size ∧ W3.heap.size ≤ W.heap.size) := Lib.hid ⟨HB3.out.size, hC.1.size⟩
      have HR : Hid (OwnA W w.heap.size W.heap.size [.slice (some ⟨b, 0, none⟩) 256 256, .slice (some ⟨b1, 0, none⟩) 32 32, .slice (some ⟨ba, 0, none⟩) 256 c, .slice C 16 d] [.I zR, .I zI, .I (progZ p p.length), .B zG]) := Lib.hid (by
        have q := HQ.out
        have hs0 := HS0.out
        have hba := HBa.out
        have hO := (HO3.out.1.awayM HY3.out hC.1).wideB (lo' := w.heap.size) (hi' := W.heap.size) (by omega) (by omega)
        have hG := (HO3.out.2.awayM HY3.out hC.1).wide (lo' := w.heap.size) (hi' := W.heap.size) (by omega) (by omega)
        have := ownA4b (c0 := 256) (c1 := 32) (c2 := c) (c3 := d) (made_own (R := W.heap.size) B0 (by omega) B0.lt) (made_own (R := W.heap.size) B1 (by omega) B1.lt) hO hG (made_ne B0 B1 (by omega)) (by omega) (by omega)
        rw [List.length_replicate, List.length_replicate, progZ_len, zG_len] at this
        exact this)
      have HBw : Hid (Below w.heap.size w W) := Lib.hid (HB3.out.trans (hC.1.below (Nat.le_of_lt HY3.out.lt)))
      clear e17 e18 f17 f18 B0 B1 Y hF hs hT hC R0 E1 E2
      go_wp2
      refine bodyPost_ret (v := .tuple #[.agg #[.slice (some ⟨b, 0, none⟩) 256 256, .slice (some ⟨b1, 0, none⟩) 32 32, .slice (some ⟨ba, 0, none⟩) 256 c, .slice C 16 d, .int .i64 0], .int .i64 0]) (by simp [results, Tryd.results19, go_sem, y0, y1, y2, y3, y4]) rfl ?_
      rw [HRz.out]
      refine ⟨some ⟨b, 0, none⟩, some ⟨b1, 0, none⟩, some ⟨ba, 0, none⟩, C, 256, 32, c, d, ?_, Lib.hid ?_, Lib.hid (by rw [progZ_len]; exact Q1.out), HBw.out⟩
      · show _ = Ending.returned (.tuple #[.agg #[.slice _ zR.length _, .slice _ zI.length _, .slice _ (progZ p p.length).length _, .slice _ zG.length _, _], _])
        rw [zR_len, zI_len, progZ_len, zG_len]
      · show OwnA _ _ _ [.slice _ zR.length _, .slice _ zI.length _, .slice _ (progZ p p.length).length _, .slice _ zG.length _] _
        rw [zR_len, zI_len, progZ_len, zG_len]; exact HR.out
  · have hcb : (cd != 0) = true := by simp [hz]
    have HRz : Hid (r = ([], [], [], [], 0, cd)) := Lib.hid (by rw [HR.out, if_neg hz])
    have s0 := Y0.out.cell 0 rfl
    have s1 := Y0.out.cell 1 rfl
    have s2 := Y0.out.cell 2 rfl
    have s3 := Y0.out.cell 3 rfl
    have s4 := Y0.out.cell 4 rfl
    have s0z := Y0.out.frozen 0
    have s1z := Y0.out.frozen 1
    have s2z := Y0.out.frozen 2
    have s3z := Y0.out.frozen 3
    have s4z := Y0.out.frozen 4
    clear hz HR HK0 H HN HC
    go_wp2
    refine bodyPost_ret (v := .tuple #[.agg #[.slice none 0 0, .slice none 0 0, .slice none 0 0, .slice none 0 0, .int .i64 0], .int .i64 cd]) (by simp [results, Tryd.results19, go_sem, s0, s1, s2, s3, s4]) rfl ?_
    rw [HRz.out]
    exact ⟨none, none, none, none, 0, 0, 0, 0, rfl, Lib.hid (ownA4_nil _ _ _ (by rw [size5]; exact hb0.size)), Lib.hid (Nat.le_refl _), below5 hb0 (Nat.le_refl _) _ _ _ _ _⟩
end Go.Proofs.YtcchhbkbnbphhaaDoor
