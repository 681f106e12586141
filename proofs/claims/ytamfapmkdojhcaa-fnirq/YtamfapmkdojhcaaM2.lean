/- Texts of this claim, one behind the other: GenC, GenIrq, IrqOk, ChipFlash, ChipCycle, ChipWipe, FlashSpec2, FlashOps, CycleOf, MemMath, GenFlash, GenMem, MemOk, CloneI, RegFacts, Ctl. -/
import Derived.Deep.DeepCutAuto
import Derived.Deep.DeepFit
import Derived.Deep.RegionHeld3
import Derived.StillTailTactics
import Derived.Lib.SliceRun
import Derived.Deep.MidRow
import Derived.Test.YtamfapmkdojhcaaM1
/- Lists of leaves: their sizes, marks and segments. -/
namespace Go.Proofs.Ytamfapmkdojhcaa
open Go.RowKit

def lenA : List Lf → Nat
  | [] => 0
  | d :: ds => d.len + lenA ds
def szA : List Lf → Nat
  | [] => 0
  | d :: ds => d.sz + szA ds
def marksA : Nat → List Lf → List Lf
  | _, [] => []
  | k, d :: ds => d.marks k :: marksA (k + d.len) ds
def FitA (ds : List Lf) : Prop := ∀ d ∈ ds, d.fit
def BndA (ds : List Lf) : Prop := ∀ d ∈ ds, d.len ≤ 4294967296
def CapA (vs : List Value) : Prop := ∀ v ∈ vs, CapL v
theorem lenA_app (a b : List Lf) : lenA (a ++ b) = lenA a + lenA b := by
  induction a with
  | nil => simp [lenA]
  | cons d ds ih => simp [lenA, ih]; omega
theorem marksA_app (k : Nat) (a b : List Lf) : marksA k (a ++ b) = marksA k a ++ marksA (k + lenA a) b := by
  induction a generalizing k with
  | nil => simp [marksA, lenA]
  | cons d ds ih => simp [marksA, lenA, ih, Nat.add_assoc]
theorem szA_len (ds : List Lf) : lenA ds ≤ szA ds := by
  induction ds with
  | nil => simp [lenA, szA]
  | cons d ds ih => have := d.len_le; simp [lenA, szA]; omega
theorem lenA_mem {ds : List Lf} {d : Lf} (h : d ∈ ds) : d.len ≤ lenA ds := by
  induction ds with
  | nil => cases h
  | cons e ds ih =>
    rcases List.mem_cons.1 h with rfl | h
    · simp [lenA]
    · have := ih h; simp [lenA]; omega
theorem CapA.cons {v : Value} {vs : List Value} (h : CapL v) (k : CapA vs) : CapA (v :: vs) := fun u hu => by
  rcases List.mem_cons.1 hu with rfl | hu
  · exact h
  · exact k u hu
theorem CapA.nil : CapA [] := fun _ h => by cases h
theorem CapA.app {a b : List Value} (h : CapA a) (k : CapA b) : CapA (a ++ b) := fun u hu => by
  rcases List.mem_append.1 hu with hu | hu
  · exact h u hu
  · exact k u hu
theorem CapA.sub {a b : List Value} (h : CapA a) (hs : ∀ v ∈ b, v ∈ a) : CapA b := fun u hu => h u (hs u hu)
theorem FitA.sub {a b : List Lf} (h : FitA a) (hs : ∀ d ∈ b, d ∈ a) : FitA b := fun u hu => h u (hs u hu)
theorem BndA.sub {a b : List Lf} (h : BndA a) (hs : ∀ d ∈ b, d ∈ a) : BndA b := fun u hu => h u (hs u hu)
theorem BndA.of_len {ds : List Lf} (h : lenA ds ≤ 4294967296) : BndA ds := fun _ hd => Nat.le_trans (lenA_mem hd) h

theorem AllA.split {P : Value → Lf → Prop} : ∀ {a b : List Value} {da db : List Lf}, a.length = da.length → AllA P (a ++ b) (da ++ db) → AllA P a da ∧ AllA P b db
  | [], _, [], _, _, h => ⟨trivial, h⟩
  | _ :: _, _, _ :: _, _, hl, h => by
    have := AllA.split (by simpa using hl) h.2
    exact ⟨⟨h.1, this.1⟩, this.2⟩
  | [], _, _ :: _, _, hl, _ => by simp at hl
  | _ :: _, _, [], _, hl, _ => by simp at hl
theorem AllA.join {P : Value → Lf → Prop} : ∀ {a b : List Value} {da db : List Lf}, AllA P a da → AllA P b db → AllA P (a ++ b) (da ++ db)
  | [], _, [], _, _, k => k
  | _ :: _, _, _ :: _, _, h, k => ⟨h.1, AllA.join h.2 k⟩
  | [], _, _ :: _, _, h, _ => h.elim
  | _ :: _, _, [], _, h, _ => h.elim
theorem RepA.seg {w : World} {a m b : List Value} {da dm db : List Lf} (h : RepA w (a ++ (m ++ b)) (da ++ (dm ++ db))) (h1 : a.length = da.length) (h2 : m.length = dm.length) : RepA w m dm :=
  (AllA.split h2 (AllA.split h1 h).2).1
theorem OwnA.seg {w : World} {lo hi : Nat} {a m b : List Value} {da dm db : List Lf} (h : OwnA w lo hi (a ++ (m ++ b)) (da ++ (dm ++ db))) (h1 : a.length = da.length) (h2 : m.length = dm.length) : OwnA w lo hi m dm := by
  refine ⟨(AllA.split h2 (AllA.split h1 h.1).2).1, ?_⟩
  have := h.2
  rw [List.filterMap_append, List.filterMap_append, List.nodup_append] at this
  exact (List.nodup_append.1 this.2.1).1
/-- A segment was written anew, and nothing else. -/
theorem OwnA.reseg {w w' : World} {lo hi : Nat} {a m b : List Value} {da dm dm' db : List Lf} (h : OwnA w lo hi (a ++ (m ++ b)) (da ++ (dm ++ db))) (h1 : a.length = da.length) (h2 : m.length = dm.length) (k : OwnA w' lo hi m dm') (t : Touch m w w') : OwnA w' lo hi (a ++ (m ++ b)) (da ++ (dm' ++ db)) := by
  obtain ⟨ha, hmb⟩ := AllA.split h1 h.1
  obtain ⟨_, hb⟩ := AllA.split h2 hmb
  have hn := h.2
  rw [List.filterMap_append, List.filterMap_append, List.nodup_append] at hn
  obtain ⟨_, n2, n3⟩ := hn
  obtain ⟨_, _, n5⟩ := List.nodup_append.1 n2
  refine ⟨AllA.join (AllA.imp (fun v _ hv h => h.away t (fun x hx hm => ?_)) ha) (AllA.join k.1 (AllA.imp (fun v _ hv h => h.away t (fun x hx hm => ?_)) hb)), h.2⟩
  · exact n3 x (List.mem_filterMap.2 ⟨v, hv, hx⟩) x (List.mem_append.2 (.inl hm)) rfl
  · exact n5 x hm x (List.mem_filterMap.2 ⟨v, hv, hx⟩) rfl
theorem OwnA.one {w : World} {lo hi : Nat} {v : Value} {d : Lf} (h : OwnL w lo hi v d) : OwnA w lo hi [v] [d] := ⟨⟨h, trivial⟩, by
  cases hb : blkL v with
  | none => simp [hb]
  | some b => simp [hb]⟩
theorem OwnA.set {w : World} {lo hi : Nat} {vs : List Value} {ds : List Lf} (h : OwnA w lo hi vs ds) {p : Addr} (hp : p.block < lo) (u : Value) : OwnA (w.setCell p u) lo hi vs ds :=
  h.btw ((Btw.refl p.block (p.block + 1) w).setCell (Nat.le_refl _) (Nat.lt_succ_self _) u) (.inr hp)
theorem Touch.mem {m vs : List Value} {w w' : World} (h : Touch m w w') (hs : ∀ v ∈ m, v ∈ vs) : Touch vs w w' := h.more fun k hk => by
  obtain ⟨v, hv, he⟩ := List.mem_filterMap.1 hk
  exact List.mem_filterMap.2 ⟨v, hs v hv, he⟩
theorem Touch.chain {vs : List Value} {a b c : World} (h : Touch vs a b) (k : Touch vs b c) : Touch vs a c := (h.trans k).more fun x hx => by
  rw [List.filterMap_append, List.mem_append] at hx
  rcases hx with h | h <;> exact h
theorem Box.touch {w w' : World} {b lo hi : Nat} {t : TypeId} {cs : Array Value} {vs : List Value} {ds : List Lf} (X : Box w b t cs) (h : OwnA w lo hi vs ds) (k : Touch vs w w') (hb : b < lo ∨ hi ≤ b) : Box w' b t cs := X.btw (k.btw h) hb
theorem OwnA.len {w : World} {lo hi : Nat} {vs : List Value} {ds : List Lf} (h : OwnA w lo hi vs ds) : vs.length = ds.length := by
  have aux : ∀ {vs : List Value} {ds : List Lf}, AllA (OwnL w lo hi) vs ds → vs.length = ds.length := by
    intro vs
    induction vs with
    | nil => intro ds h; cases ds with
      | nil => rfl
      | cons => exact h.elim
    | cons v vs ih => intro ds h; cases ds with
      | nil => exact h.elim
      | cons d ds => simp [ih h.2]
  exact aux h.1
theorem repI {w : World} {A : Option Addr} {c : Nat} {zs : List Int} (h : RepL w (.slice A zs.length c) (.I zs)) : IntL w A zs := by
  obtain ⟨A', c', e, h⟩ := h
  injection e with e1 e2 e3
  subst e1
  exact h
theorem repB {w : World} {A : Option Addr} {c : Nat} {zs : List Bool} (h : RepL w (.slice A zs.length c) (.B zs)) : BoolL w A zs := by
  obtain ⟨A', c', e, h⟩ := h
  injection e with e1 e2 e3
  subst e1
  exact h
theorem repS {w : World} {A : Option Addr} {c : Nat} {zs : List ByteArray} (h : RepL w (.slice A zs.length c) (.S zs)) : StrL w A zs := by
  obtain ⟨A', c', e, h⟩ := h
  injection e with e1 e2 e3
  subst e1
  exact h
theorem lenS_mem {ss : List ByteArray} {s : ByteArray} (h : s ∈ ss) : s.size ≤ lenS ss := by
  induction ss with
  | nil => cases h
  | cons x ss ih =>
    have e : lenS (x :: ss) = x.size + lenS ss := by simp [lenS]
    rcases List.mem_cons.1 h with rfl | h
    · omega
    · have := ih h; omega
theorem fit_of_sz {ss : List ByteArray} (h : szA [.S ss] ≤ 1048576) : FitS ss := fun s hs => by
  have := lenS_mem hs
  simp only [szA, Lf.sz] at h
  unfold maxLen; omega
theorem OwnI.rowOf {w : World} {lo hi : Nat} {A : Option Addr} {zs : List Int} {c b : Nat} (h : OwnI w lo hi A zs) (hb : blkL (.slice A zs.length c) = some b) : ∃ m f, w.rowIs b 3 m f := by
  rcases h with rfl | ⟨g, m, f, rfl, _, _, _, hr, _⟩
  · rw [List.length_nil, blkL_zero] at hb; cases hb
  · rcases Nat.eq_zero_or_pos zs.length with hz | hz
    · rw [hz, blkL_zero] at hb; cases hb
    · rw [blkL_some hz] at hb; injection hb with hb; subst hb; exact ⟨m, f, hr⟩
theorem OwnB.rowOf {w : World} {lo hi : Nat} {A : Option Addr} {zs : List Bool} {c b : Nat} (h : OwnB w lo hi A zs) (hb : blkL (.slice A zs.length c) = some b) : ∃ m f, w.rowIs b 4 m f := by
  rcases h with rfl | ⟨g, m, f, rfl, _, _, _, hr, _⟩
  · rw [List.length_nil, blkL_zero] at hb; cases hb
  · rcases Nat.eq_zero_or_pos zs.length with hz | hz
    · rw [hz, blkL_zero] at hb; cases hb
    · rw [blkL_some hz] at hb; injection hb with hb; subst hb; exact ⟨m, f, hr⟩
theorem OwnS.rowOf {w : World} {lo hi : Nat} {A : Option Addr} {zs : List ByteArray} {c b : Nat} (h : OwnS w lo hi A zs) (hb : blkL (.slice A zs.length c) = some b) : ∃ m f, w.rowIs b 9 m f := by
  rcases h with rfl | ⟨g, m, f, rfl, _, _, _, hr, _⟩
  · rw [List.length_nil, blkL_zero] at hb; cases hb
  · rcases Nat.eq_zero_or_pos zs.length with hz | hz
    · rw [hz, blkL_zero] at hb; cases hb
    · rw [blkL_some hz] at hb; injection hb with hb; subst hb; exact ⟨m, f, hr⟩
/-- A []int and a []bool of the call's own are of two blocks. -/
theorem ownIB {w : World} {lo hi : Nat} {A C : Option Addr} {c d : Nat} {zs : List Int} {gs : List Bool} (h : OwnI w lo hi A zs) (g : OwnB w lo hi C gs) : OwnA w lo hi [.slice A zs.length c, .slice C gs.length d] [.I zs, .B gs] :=
  OwnA.cons ⟨A, c, rfl, h⟩ (OwnA.one ⟨C, d, rfl, g⟩) (fun b hb hm => by
    obtain ⟨m, f, hr⟩ := h.rowOf hb
    obtain ⟨v, hv, he⟩ := List.mem_filterMap.1 hm
    rw [List.mem_singleton] at hv
    subst hv
    obtain ⟨m', f', hr'⟩ := g.rowOf he
    exact row_ne hr hr' (by decide) rfl)
end Go.Proofs.Ytamfapmkdojhcaa

/- The laws' own functions over Irq, on leaves. Written by gen_t.py. -/
namespace Go.Proofs.Ytamfapmkdojhcaa
open Go.RowKit

set_option maxRecDepth 100000 in
set_option maxHeartbeats 2000000 in
theorem szIrqA (vA0 vA1 : Option Addr) (vc0 vc1 : Nat) (d0 : List Int) (d1 : List Bool) (left : Int) (w : World) (h : RepA w [.slice vA0 d0.length vc0, .slice vA1 d1.length vc1] [Lf.I d0, Lf.B d1]) (hf : FitA [Lf.I d0, Lf.B d1]) (h0 : 0 ≤ left) (h1 : left ≤ 1048576) :
    Calls Try.prog 23 #[.agg #[.slice vA0 d0.length vc0, .slice vA1 d1.length vc1], .int .i64 left] w (Left left (szA [Lf.I d0, Lf.B d1]) w) := by
  have H0 := Lib.hid (fun W (hb : Below w.heap.size w W) l g0 g1 => szLI (.slice vA0 d0.length vc0) d0 l W ((h.below hb).1) (hf _ (by simp)) g0 g1)
  have H1 := Lib.hid (fun W (hb : Below w.heap.size w W) l g0 g1 => szLB (.slice vA1 d1.length vc1) d1 l W ((h.below hb).2.1) (hf _ (by simp)) g0 g1)
  have HR : Hid (szA [Lf.I d0, Lf.B d1] = (Lf.sz (Lf.I d0)) + (Lf.sz (Lf.B d1))) := Lib.hid (by simp only [szA]; omega)
  generalize szA [Lf.I d0, Lf.B d1] = sa at HR ⊢
  generalize (Lf.sz (Lf.I d0)) = z0 at HR H0
  generalize (Lf.sz (Lf.B d1)) = z1 at HR H1
  have hb0 := alloc_below w (.cells #[.slice vA0 d0.length vc0, .slice vA1 d1.length vc1] 40)
  have X := Lib.hid (Box.new w 40 #[.slice vA0 d0.length vc0, .slice vA1 d1.length vc1])
  clear h hf
  go_enter Try.func23, Try.ntmps23
  go_wp2_with fail
  refine (H0.out _ hb0 _ (by omega) (by omega)).mono ?_
  rintro e w1 ⟨hres, hc1⟩
  have X1 := Lib.hid (X.out.step hc1)
  have hb1 := bt hb0 hc1
  clear X hb0 hc1
  rcases hres with rfl | ⟨rfl, hle0⟩
  · go_wp2
    go_ret
    exact ⟨.inl rfl, hb1⟩
  have hp0 : ¬ left - (z0 : Int) < 0 := by omega
  have f1 := X1.out.cell 1 rfl
  go_wp2_with fail
  refine (H1.out _ hb1 _ (by omega) (by omega)).mono ?_
  rintro e w2 ⟨hres, hc2⟩
  have X2 := Lib.hid (X1.out.step hc2)
  have hb2 := bt hb1 hc2
  clear X1 hb1 hc2 f1
  rcases hres with rfl | ⟨rfl, hle1⟩
  · go_wp2
    go_ret
    exact ⟨.inl rfl, hb2⟩
  have hp1 : ¬ left - (z0 : Int) - (z1 : Int) < 0 := by omega
  go_wp2
  go_ret
  exact ⟨.inr ⟨ret_int (by have := HR.out; omega), by have := HR.out; omega⟩, hb2⟩

set_option maxRecDepth 100000 in
set_option maxHeartbeats 4000000 in
theorem toIrqA (vA0 vA1 : Option Addr) (vc0 vc1 : Nat) (d0 : List Int) (d1 : List Bool) (w : World) (h : RepA w [.slice vA0 d0.length vc0, .slice vA1 d1.length vc1] [Lf.I d0, Lf.B d1]) (hn : lenA [Lf.I d0, Lf.B d1] ≤ 1048576) :
    Calls Try.prog 25 #[.agg #[.slice vA0 d0.length vc0, .slice vA1 d1.length vc1]] w (fun e w' => ∃ uA0 uA1 uc0 uc1, e = .returned (.agg #[.slice uA0 d0.length uc0, .slice uA1 d1.length uc1]) ∧ Hid (OwnA w' w.heap.size w'.heap.size [.slice uA0 d0.length uc0, .slice uA1 d1.length uc1] [Lf.I d0, Lf.B d1]) ∧ Hid (CapA [.slice uA0 d0.length uc0, .slice uA1 d1.length uc1]) ∧ Below w.heap.size w w') := by
  obtain ⟨W0, hW0⟩ : ∃ W0, W0 = (((w.alloc (.cells #[.slice vA0 d0.length vc0, .slice vA1 d1.length vc1] 40)).alloc (.cells #[.slice none 0 0, .slice none 0 0] 26)).alloc (.cells #[.slice none 0 0, .slice none 0 0] 26)) := ⟨_, rfl⟩
  have hs0 : W0.heap.size = w.heap.size + 1 + 1 + 1 := by rw [hW0]; simp
  have hb0 : Below w.heap.size w W0 := by rw [hW0]; exact (((Below.refl _ _).alloc (Nat.le_refl _) _).alloc (by simp) _).alloc (by simp; omega) _
  have X0 : Hid (Box W0 w.heap.size 40 #[.slice vA0 d0.length vc0, .slice vA1 d1.length vc1]) := Lib.hid (by rw [hW0]; exact ((Box.new _ _ _).alloc _).alloc _)
  have Y0 : Hid (Box W0 (w.heap.size + 1) 26 #[.slice none 0 0, .slice none 0 0]) := Lib.hid (by rw [hW0]; simpa using (Box.new (w.alloc (.cells #[.slice vA0 d0.length vc0, .slice vA1 d1.length vc1] 40)) 26 #[.slice none 0 0, .slice none 0 0]).alloc (.cells #[.slice none 0 0, .slice none 0 0] 26))
  have Z0 : Hid (Box W0 (w.heap.size + 1 + 1) 26 #[.slice none 0 0, .slice none 0 0]) := Lib.hid (by rw [hW0]; simpa using Box.new ((w.alloc (.cells #[.slice vA0 d0.length vc0, .slice vA1 d1.length vc1] 40)).alloc (.cells #[.slice none 0 0, .slice none 0 0] 26)) 26 #[.slice none 0 0, .slice none 0 0])
  have O0 : Hid (OwnA W0 (w.heap.size + 3) W0.heap.size [] []) := Lib.hid (OwnA.nil _ _ _)
  have H0 := Lib.hid (fun W (hb : Below w.heap.size w W) => toLI (.slice vA0 d0.length vc0) d0 W ((h.below hb).1) (by simp only [lenA, Lf.len] at hn; omega))
  have H1 := Lib.hid (fun W (hb : Below w.heap.size w W) => toLB (.slice vA1 d1.length vc1) d1 W ((h.below hb).2.1) (by simp only [lenA, Lf.len] at hn; omega))
  have HW0 := Lib.hid hW0
  have HS0 := Lib.hid hs0
  clear h hn hW0 hs0
  go_enter Try.func25, Try.ntmps25
  go_wp2_with fail
  rw [← HW0.out]
  refine (H0.out _ hb0).mono ?_
  rintro e w1 ⟨uA0, uc0, rfl, N1, K0, hc⟩
  have hq0 : w.heap.size + 3 ≤ W0.heap.size := by have := Z0.out.lt; omega
  have X1 := Lib.hid (X0.out.step hc)
  have Y1 := Lib.hid (Y0.out.step hc)
  have Z1 := Lib.hid (Z0.out.step hc)
  have O1 : Hid (OwnA w1 (w.heap.size + 3) w1.heap.size [.slice uA0 d0.length uc0] [Lf.I d0]) := Lib.hid ((O0.out.below hc).append (OwnA.one N1.out) (.inl (Nat.le_refl _)) (Nat.le_refl _) hq0 hc.size (Nat.le_refl _))
  have hb1 := bt hb0 hc
  clear X0 Y0 Z0 O0 hb0 hc N1 hq0 HW0 HS0
  have fa1 := X1.out.cell 1 rfl
  have fz0 := Z1.out.cell 0 rfl
  have gz0 := Z1.out.frozen 0
  go_wp2_with fail
  obtain ⟨V1, hV1⟩ : ∃ V1, V1 = (w1.setCell ⟨w.heap.size + 1 + 1, 0, none⟩ (.slice uA0 d0.length uc0)) := ⟨_, rfl⟩
  have X2 : Hid (Box V1 w.heap.size 40 #[.slice vA0 d0.length vc0, .slice vA1 d1.length vc1]) := Lib.hid (by rw [hV1]; exact (X1.out.far (p := ⟨w.heap.size + 1 + 1, 0, none⟩) (by show w.heap.size ≠ w.heap.size + 1 + 1; omega) (.slice uA0 d0.length uc0)))
  have Y2 : Hid (Box V1 (w.heap.size + 1) 26 #[.slice none 0 0, .slice none 0 0]) := Lib.hid (by rw [hV1]; exact (Y1.out.far (p := ⟨w.heap.size + 1 + 1, 0, none⟩) (by show w.heap.size + 1 ≠ w.heap.size + 1 + 1; omega) (.slice uA0 d0.length uc0)))
  have Z2 : Hid (Box V1 (w.heap.size + 1 + 1) 26 #[.slice uA0 d0.length uc0, .slice none 0 0]) := Lib.hid (by rw [hV1]; exact (Z1.out.set 0 (.slice uA0 d0.length uc0)))
  have hsz2 : V1.heap.size = w1.heap.size := by rw [hV1]; simp [World.setCell]
  have O2 : Hid (OwnA V1 (w.heap.size + 3) V1.heap.size [.slice uA0 d0.length uc0] [Lf.I d0]) := Lib.hid (by rw [hsz2, hV1]; exact (O1.out.set (p := ⟨w.heap.size + 1 + 1, 0, none⟩) (by show w.heap.size + 1 + 1 < w.heap.size + 3; omega) (.slice uA0 d0.length uc0)))
  have hb2 : Below w.heap.size w V1 := by rw [hV1]; exact (hb1.setCell (p := ⟨w.heap.size + 1 + 1, 0, none⟩) (by show w.heap.size ≤ w.heap.size + 1 + 1; omega) (.slice uA0 d0.length uc0))
  rw [← hV1]
  clear X1 Y1 Z1 O1 hb1 hV1 hsz2 fa1 fz0 gz0
  refine (H1.out _ hb2).mono ?_
  rintro e w2 ⟨uA1, uc1, rfl, N1, K1, hc⟩
  have hq0 : w.heap.size + 3 ≤ V1.heap.size := by have := Z2.out.lt; omega
  have X3 := Lib.hid (X2.out.step hc)
  have Y3 := Lib.hid (Y2.out.step hc)
  have Z3 := Lib.hid (Z2.out.step hc)
  have O3 : Hid (OwnA w2 (w.heap.size + 3) w2.heap.size [.slice uA0 d0.length uc0, .slice uA1 d1.length uc1] [Lf.I d0, Lf.B d1]) := Lib.hid ((O2.out.below hc).append (OwnA.one N1.out) (.inl (Nat.le_refl _)) (Nat.le_refl _) hq0 hc.size (Nat.le_refl _))
  have hb3 := bt hb2 hc
  clear X2 Y2 Z2 O2 hb2 hc N1 hq0
  have fz1 := Z3.out.cell 1 rfl
  have gz1 := Z3.out.frozen 1
  have fz0 := Z3.out.cell 0 rfl
  have fy0 := Y3.out.cell 0 rfl
  have gy0 := Y3.out.frozen 0
  have fy1 := Y3.out.cell 1 rfl
  have gy1 := Y3.out.frozen 1
  go_wp2
  refine bodyPost_ret (v := .agg #[.slice uA0 d0.length uc0, .slice uA1 d1.length uc1]) (by simp [results, Try.results25, go_sem, fy0, fy1]) rfl ?_
  refine ⟨uA0, uA1, uc0, uc1, rfl, Lib.hid (((((O3.out.set (p := ⟨w.heap.size + 1 + 1, 1, none⟩) (by show w.heap.size + 1 + 1 < w.heap.size + 3; omega) _).set (p := ⟨w.heap.size + 1, 0, none⟩) (by show w.heap.size + 1 < w.heap.size + 3; omega) _).set (p := ⟨w.heap.size + 1, 1, none⟩) (by show w.heap.size + 1 < w.heap.size + 3; omega) _)).wide (by omega) (by simp [World.setCell])), Lib.hid (CapA.cons K0.out (CapA.cons K1.out CapA.nil)), (((hb3.setCell (p := ⟨w.heap.size + 1 + 1, 1, none⟩) (by show w.heap.size ≤ w.heap.size + 1 + 1; omega) _).setCell (p := ⟨w.heap.size + 1, 0, none⟩) (by show w.heap.size ≤ w.heap.size + 1; omega) _).setCell (p := ⟨w.heap.size + 1, 1, none⟩) (by show w.heap.size ≤ w.heap.size + 1; omega) _)⟩

set_option maxRecDepth 100000 in
set_option maxHeartbeats 4000000 in
theorem eqIrqA (vA0 vA1 : Option Addr) (vc0 vc1 : Nat) (uA0 uA1 : Option Addr) (uc0 uc1 : Nat) (d0 : List Int) (d1 : List Bool) (w : World) (h : RepA w [.slice vA0 d0.length vc0, .slice vA1 d1.length vc1] [Lf.I d0, Lf.B d1]) (h' : RepA w [.slice uA0 d0.length uc0, .slice uA1 d1.length uc1] [Lf.I d0, Lf.B d1]) (hn : lenA [Lf.I d0, Lf.B d1] ≤ maxLen) :
    Calls Try.prog 20 #[.agg #[.slice vA0 d0.length vc0, .slice vA1 d1.length vc1], .agg #[.slice uA0 d0.length uc0, .slice uA1 d1.length uc1]] w fun e w' => e = .returned (.bool true) ∧ Below w.heap.size w w' := by
  have H0 := Lib.hid (fun W (hb : Below w.heap.size w W) => eqLI (.slice vA0 d0.length vc0) (.slice uA0 d0.length uc0) d0 W ((h.below hb).1) ((h'.below hb).1) (by simp only [lenA, Lf.len] at hn; omega))
  have H1 := Lib.hid (fun W (hb : Below w.heap.size w W) => eqLB (.slice vA1 d1.length vc1) (.slice uA1 d1.length uc1) d1 W ((h.below hb).2.1) ((h'.below hb).2.1) (by simp only [lenA, Lf.len] at hn; omega))
  obtain ⟨W0, hW0⟩ : ∃ W0, W0 = ((w.alloc (.cells #[.slice vA0 d0.length vc0, .slice vA1 d1.length vc1] 26)).alloc (.cells #[.slice uA0 d0.length uc0, .slice uA1 d1.length uc1] 26)) := ⟨_, rfl⟩
  have hb0 : Below w.heap.size w W0 := by rw [hW0]; exact ((Below.refl _ _).alloc (Nat.le_refl _) _).alloc (by simp) _
  have X0 : Hid (Box W0 w.heap.size 26 #[.slice vA0 d0.length vc0, .slice vA1 d1.length vc1]) := Lib.hid (by rw [hW0]; exact (Box.new _ _ _).alloc _)
  have Y0 : Hid (Box W0 (w.heap.size + 1) 26 #[.slice uA0 d0.length uc0, .slice uA1 d1.length uc1]) := Lib.hid (by rw [hW0]; simpa using Box.new (w.alloc (.cells #[.slice vA0 d0.length vc0, .slice vA1 d1.length vc1] 26)) 26 #[.slice uA0 d0.length uc0, .slice uA1 d1.length uc1])
  have HW0 := Lib.hid hW0
  clear hW0 h h' hn
  go_enter Try.func20, Try.ntmps20
  go_wp2_with fail
  rw [← HW0.out]
  refine (H0.out _ hb0).mono ?_
  rintro e w1 ⟨rfl, hc⟩
  have X1 := Lib.hid (X0.out.step hc)
  have Y1 := Lib.hid (Y0.out.step hc)
  have hb1 := bt hb0 hc
  clear X0 Y0 hb0 hc HW0
  have k1 := X1.out.cell 1 rfl
  have l1 := Y1.out.cell 1 rfl
  go_wp2_with fail
  refine (H1.out _ hb1).mono ?_
  rintro e w2 ⟨rfl, hc⟩
  have X2 := Lib.hid (X1.out.step hc)
  have Y2 := Lib.hid (Y1.out.step hc)
  have hb2 := bt hb1 hc
  clear X1 Y1 hb1 hc k1 l1
  go_wp2
  go_ret
  exact ⟨rfl, hb2⟩

set_option maxRecDepth 100000 in
set_option maxHeartbeats 4000000 in
theorem markIrqA (vA0 vA1 : Option Addr) (vc0 vc1 : Nat) (d0 : List Int) (d1 : List Bool) (k lo hi : Nat) (w : World) (h : OwnA w lo hi [.slice vA0 d0.length vc0, .slice vA1 d1.length vc1] [Lf.I d0, Lf.B d1]) (hhi : hi ≤ w.heap.size) (hk : 1 ≤ k) (hB : BndA [Lf.I d0, Lf.B d1]) (hk2 : k + lenA [Lf.I d0, Lf.B d1] ≤ 549755813888) :
    Calls Try.prog 21 #[.agg #[.slice vA0 d0.length vc0, .slice vA1 d1.length vc1], .int .i64 (k : Int)] w fun e w' => e = .returned (.int .i64 ((k + lenA [Lf.I d0, Lf.B d1] : Nat) : Int)) ∧ Hid (OwnA w' lo hi [.slice vA0 d0.length vc0, .slice vA1 d1.length vc1] (marksA k [Lf.I d0, Lf.B d1])) ∧ Touch [.slice vA0 d0.length vc0, .slice vA1 d1.length vc1] w w' := by
  have hb0 := alloc_below w (.cells #[.slice vA0 d0.length vc0, .slice vA1 d1.length vc1] 26)
  have X0 := Lib.hid (Box.new w 26 #[.slice vA0 d0.length vc0, .slice vA1 d1.length vc1])
  have O0 := Lib.hid (h.below hb0)
  have T0 := Lib.hid (Touch.of_below hb0 [.slice vA0 d0.length vc0, .slice vA1 d1.length vc1])
  have H0 := Lib.hid (fun W (o : OwnL W lo hi (.slice vA0 d0.length vc0) (Lf.I d0)) => markLI (.slice vA0 d0.length vc0) d0 (k) lo hi W o (by omega) (hB (Lf.I d0) (by simp)) (by simp only [lenA] at hk2 ⊢; omega))
  have H1 := Lib.hid (fun W (o : OwnL W lo hi (.slice vA1 d1.length vc1) (Lf.B d1)) => markLB (.slice vA1 d1.length vc1) d1 (k + (Lf.len (Lf.I d0))) lo hi W o (by omega) (hB (Lf.B d1) (by simp)) (by simp only [lenA] at hk2 ⊢; omega))
  have HH := Lib.hid hhi
  clear h hb0 hB hk2 hk hhi
  go_enter Try.func21, Try.ntmps21
  have G0 := OwnA.seg (a := []) (m := [.slice vA0 d0.length vc0]) (b := [.slice vA1 d1.length vc1]) (da := []) (dm := [Lf.I d0]) (db := [Lf.B d1]) O0.out rfl rfl
  have HC0 := Lib.hid (H0.out _ G0.1.1)
  clear G0
  go_wp2_with fail
  refine HC0.out.mono ?_
  rintro e w1 ⟨rfl, M0, U0⟩
  have O1 := Lib.hid (OwnA.reseg (a := []) (m := [.slice vA0 d0.length vc0]) (b := [.slice vA1 d1.length vc1]) (da := []) (dm := [Lf.I d0]) (db := [Lf.B d1]) (dm' := [(Lf.I d0).marks (k)]) O0.out rfl rfl (OwnA.one M0.out) U0)
  have T1 := Lib.hid (T0.out.chain (U0.mem (by simp +contextual)))
  have X1 : Hid (Box w1 w.heap.size 26 #[.slice vA0 d0.length vc0, .slice vA1 d1.length vc1]) := Lib.hid (X0.out.touch (OwnA.seg (a := []) (m := [.slice vA0 d0.length vc0]) (b := [.slice vA1 d1.length vc1]) (da := []) (dm := [Lf.I d0]) (db := [Lf.B d1]) O0.out rfl rfl) U0 (.inr HH.out))
  clear X0 O0 T0 M0 U0 HC0
  have f1 := X1.out.cell 1 rfl
  have G1 := OwnA.seg (a := [.slice vA0 d0.length vc0]) (m := [.slice vA1 d1.length vc1]) (b := []) (da := [(Lf.I d0).marks (k)]) (dm := [Lf.B d1]) (db := []) O1.out rfl rfl
  have HC1 := Lib.hid (H1.out _ G1.1.1)
  clear G1
  go_wp2_with fail
  try rw [HKe1.out]
  refine HC1.out.mono ?_
  rintro e w2 ⟨rfl, M1, U1⟩
  have O2 := Lib.hid (OwnA.reseg (a := [.slice vA0 d0.length vc0]) (m := [.slice vA1 d1.length vc1]) (b := []) (da := [(Lf.I d0).marks (k)]) (dm := [Lf.B d1]) (db := []) (dm' := [(Lf.B d1).marks (k + (Lf.len (Lf.I d0)))]) O1.out rfl rfl (OwnA.one M1.out) U1)
  have T2 := Lib.hid (T1.out.chain (U1.mem (by simp +contextual)))
  have X2 : Hid (Box w2 w.heap.size 26 #[.slice vA0 d0.length vc0, .slice vA1 d1.length vc1]) := Lib.hid (X1.out.touch (OwnA.seg (a := [.slice vA0 d0.length vc0]) (m := [.slice vA1 d1.length vc1]) (b := []) (da := [(Lf.I d0).marks (k)]) (dm := [Lf.B d1]) (db := []) O1.out rfl rfl) U1 (.inr HH.out))
  clear X1 O1 T1 M1 U1 HC1 f1
  go_wp2
  go_ret
  refine ⟨?_, Lib.hid ?_, T2.out⟩
  · refine ret_int ?_
    simp only [lenA]; omega
  · have := O2.out
    first | exact this | (simp only [marksA, lenA, List.cons_append, List.nil_append, Nat.add_zero, Nat.add_assoc] at this ⊢; exact this)

set_option maxRecDepth 100000 in
set_option maxHeartbeats 4000000 in
theorem heldIrqA (vA0 vA1 : Option Addr) (vc0 vc1 : Nat) (d0 : List Int) (d1 : List Bool) (k : Nat) (w : World) (h : RepA w [.slice vA0 d0.length vc0, .slice vA1 d1.length vc1] (marksA k [Lf.I d0, Lf.B d1])) (hk : 1 ≤ k) (hB : BndA [Lf.I d0, Lf.B d1]) (hk2 : k + lenA [Lf.I d0, Lf.B d1] ≤ 549755813888) :
    Calls Try.prog 22 #[.agg #[.slice vA0 d0.length vc0, .slice vA1 d1.length vc1], .int .i64 (k : Int)] w fun e w' => e = .returned (.int .i64 ((k + lenA [Lf.I d0, Lf.B d1] : Nat) : Int)) ∧ Below w.heap.size w w' := by
  have hb0 := alloc_below w (.cells #[.slice vA0 d0.length vc0, .slice vA1 d1.length vc1] 26)
  have X0 := Lib.hid (Box.new w 26 #[.slice vA0 d0.length vc0, .slice vA1 d1.length vc1])
  simp only [marksA] at h
  have H0 := Lib.hid (fun W (hb : Below w.heap.size w W) => heldLI (.slice vA0 d0.length vc0) d0 (k) W (by have := (h.below hb).1; simpa only [Nat.add_assoc] using this) (by omega) (hB (Lf.I d0) (by simp)) (by simp only [lenA] at hk2 ⊢; omega))
  have H1 := Lib.hid (fun W (hb : Below w.heap.size w W) => heldLB (.slice vA1 d1.length vc1) d1 (k + (Lf.len (Lf.I d0))) W (by have := (h.below hb).2.1; simpa only [Nat.add_assoc] using this) (by omega) (hB (Lf.B d1) (by simp)) (by simp only [lenA] at hk2 ⊢; omega))
  clear h hB hk hk2
  go_enter Try.func22, Try.ntmps22
  go_wp2_with fail
  refine (H0.out _ hb0).mono ?_
  rintro e w1 ⟨rfl, hc⟩
  have X1 := Lib.hid (X0.out.step hc)
  have hb1 := bt hb0 hc
  clear X0 hb0 hc
  have hp0 : ¬ ((k + (Lf.len (Lf.I d0)) : Nat) : Int) < 0 := by omega
  have f1 := X1.out.cell 1 rfl
  go_wp2_with fail
  refine (H1.out _ hb1).mono ?_
  rintro e w2 ⟨rfl, hc⟩
  have X2 := Lib.hid (X1.out.step hc)
  have hb2 := bt hb1 hc
  clear X1 hb1 hc f1
  have hp1 : ¬ ((k + (Lf.len (Lf.I d0)) + (Lf.len (Lf.B d1)) : Nat) : Int) < 0 := by omega
  go_wp2
  go_ret
  exact ⟨ret_int (by simp only [lenA]; omega), hb2⟩

end Go.Proofs.Ytamfapmkdojhcaa

/- An interrupt controller's validity: levels, lines, IrqOK on both sides, the checks of a line. -/
namespace Go.Proofs.Ytamfapmkdojhcaa
open Go.RowKit

/-- From 0 to 7: a level, or a line. -/
def lvB (n : Int) : Bool := decide (0 ≤ n ∧ n ≤ 7)
def okIrq (d0 : List Int) (d1 : List Bool) : Bool := decide (d0.length = 8) && (decide (d1.length = 8) && d0.all lvB)
theorem lvB_range {n : Int} (h : lvB n = true) : 0 ≤ n ∧ n ≤ 7 := by simpa [lvB] using h
theorem okIrq_no1 (d0 : List Int) (d1 : List Bool) (h : d0.length ≠ 8) : okIrq d0 d1 = false := by unfold okIrq; simp [h]
theorem okIrq_no2 (d0 : List Int) (d1 : List Bool) (h : d1.length ≠ 8) : okIrq d0 d1 = false := by unfold okIrq; simp [h]
theorem okIrq_yes (d0 : List Int) (d1 : List Bool) (h : d0.length = 8) (h2 : d1.length = 8) : okIrq d0 d1 = d0.all lvB := by unfold okIrq; simp [h, h2]
theorem okIrq_len {d0 : List Int} {d1 : List Bool} (h : okIrq d0 d1 = true) : d0.length = 8 ∧ d1.length = 8 ∧ ∀ z ∈ d0, 0 ≤ z ∧ z ≤ 7 := by
  unfold okIrq at h
  simp only [Bool.and_eq_true, decide_eq_true_eq, List.all_eq_true] at h
  exact ⟨h.1, h.2.1, fun z hz => lvB_range (h.2.2 z hz)⟩
/-- What a check of a line answers. -/
def lineC (d0 : List Int) (d1 : List Bool) (n : Int) : Int := if okIrq d0 d1 then (if lvB n then 0 else 4) else 1

set_option maxRecDepth 100000 in
theorem isLine (n : Int) (w : World) : Calls Try.prog 58 #[.int .i64 n] w fun e w' => e = .returned (.bool (lvB n)) ∧ w = w' := by
  go_enter Try.func58, Try.ntmps58
  go_wp2
  all_goals go_ret
  all_goals (refine ⟨ret_bool ?_, rfl⟩)
  all_goals (unfold lvB; rw [Bool.eq_iff_iff]; simp; try omega)
set_option maxRecDepth 100000 in
theorem isLevel (n : Int) (w : World) : Calls Try.prog 32 #[.int .i64 n] w fun e w' => e = .returned (.bool (lvB n)) ∧ w = w' := by
  go_enter Try.func32, Try.ntmps32
  go_wp2
  all_goals go_ret
  all_goals (refine ⟨ret_bool ?_, rfl⟩)
  all_goals (unfold lvB; rw [Bool.eq_iff_iff]; simp; try omega)
set_option maxRecDepth 100000 in
theorem l01In7 (n : Int) (w : World) : Calls Try.prog 35 #[.int .i64 n, .int .i64 0, .int .i64 7] w fun e w' => e = .returned (.bool (lvB n)) ∧ w = w' := by
  go_enter Try.func35, Try.ntmps35
  go_wp2
  all_goals go_ret
  all_goals (refine ⟨ret_bool ?_, rfl⟩)
  all_goals (unfold lvB; rw [Bool.eq_iff_iff]; simp; try omega)

set_option maxRecDepth 100000 in
set_option maxHeartbeats 1000000 in
theorem allLevels (A : Option Addr) (n c : Nat) (zs : List Int) (w : World) (hl : zs.length = n) (hn : n ≤ maxLen) (h : IntL w A zs) :
    Calls Try.prog 55 #[.slice A n c] w fun e w' => e = .returned (.bool (zs.all lvB)) ∧ w = w' := by
  unfold maxLen at hn
  have HL := Lib.hid hl
  have H := Lib.hid h
  clear hl h
  go_enter Try.func55, Try.ntmps55
  go_wp2
  go_loop [7] (fun i => ∃ k : Nat, k ≤ n ∧ i = .int .i64 k ∧ Hid (zs.all lvB = (zs.drop k).all lvB)) (fun i => n - (intOf i).toNat)
  case atStart => exact ⟨0, Nat.zero_le _, rfl, Lib.hid rfl⟩
  case round =>
    obtain ⟨k, hk, rfl, HT⟩ := hrel
    by_cases hlt : k < n
    · obtain ⟨b, off, rfl, hc⟩ := H.out k (by rw [HL.out]; exact hlt)
      have HS := Lib.hid (all_step lvB zs 0 k (by rw [HL.out]; exact hlt))
      generalize zs.getD k 0 = x at hc HS
      have hi : (k : Int) < (n : Int) := by omega
      by_cases hE : lvB x = true
      · go_wp2_with (first | (go_at_call 32; refine (isLevel _ _).mono ?_; rintro e w' ⟨rfl, rfl⟩; rw [hE]))
        go_round
        case rel => exact ⟨k + 1, by omega, by go_num, Lib.hid (by rw [HT.out, HS.out, hE]; rfl)⟩
        case measure => simp [intOf]; omega
      · have hE' : lvB x = false := by simpa using hE
        clear hE
        go_wp2_with (first | (go_at_call 32; refine (isLevel _ _).mono ?_; rintro e w' ⟨rfl, rfl⟩; rw [hE']))
        go_ret
        exact ⟨ret_bool (by rw [HT.out, HS.out, hE']; rfl), rfl⟩
    · have HT2 : Hid (zs.all lvB = true) := Lib.hid (by rw [HT.out]; exact all_end _ _ _ (by rw [HL.out]; omega))
      go_wp2
      go_ret
      exact ⟨ret_bool HT2.out.symm, rfl⟩

section
variable (A0 A1 : Option Addr) (n0 n1 c0 c1 : Nat) (d0 : List Int) (d1 : List Bool) (w : World)
set_option maxRecDepth 100000 in
set_option maxHeartbeats 2000000 in
theorem irqValid (l0 : d0.length = n0) (l1 : d1.length = n1) (m0 : n0 ≤ maxLen) (m1 : n1 ≤ maxLen) (h0 : IntL w A0 d0) :
    Calls Try.prog 31 #[.agg #[.slice A0 n0 c0, .slice A1 n1 c1]] w fun e w' => e = .returned (.bool (okIrq d0 d1)) ∧ Below w.heap.size w w' := by
  have hb0 := alloc_below w (.cells #[.slice A0 n0 c0, .slice A1 n1 c1] 26)
  have HB0 := Lib.hid (allLevels A0 n0 c0 d0 _ l0 m0 (h0.below hb0))
  have HL := Lib.hid (And.intro l0 l1)
  unfold maxLen at m0 m1
  clear l0 l1 h0
  by_cases e0 : n0 = 8
  · have q0 : ((n0 : Int) == 8) = true := by simp; omega
    by_cases e1 : n1 = 8
    · have q1 : ((n1 : Int) == 8) = true := by simp; omega
      have HY := Lib.hid (okIrq_yes d0 d1 (by rw [HL.out.1]; exact e0) (by rw [HL.out.2]; exact e1))
      generalize okIrq d0 d1 = r at HY
      generalize d0.all lvB = o at HB0 HY
      clear e0 e1
      go_enter Try.func31, Try.ntmps31
      go_wp2_with fail
      refine HB0.out.mono ?_
      rintro e w' ⟨rfl, rfl⟩
      go_wp2
      all_goals go_ret
      all_goals exact ⟨ret_bool HY.out.symm, hb0⟩
    · have q1 : ((n1 : Int) == 8) = false := by simp; omega
      have HY := Lib.hid (okIrq_no2 d0 d1 (by rw [HL.out.2]; exact e1))
      clear e0 e1
      go_enter Try.func31, Try.ntmps31
      go_wp2
      all_goals go_ret
      all_goals exact ⟨ret_bool HY.out.symm, hb0⟩
  · have q0 : ((n0 : Int) == 8) = false := by simp; omega
    have HY := Lib.hid (okIrq_no1 d0 d1 (by rw [HL.out.1]; exact e0))
    clear e0
    go_enter Try.func31, Try.ntmps31
    go_wp2
    all_goals go_ret
    all_goals exact ⟨ret_bool HY.out.symm, hb0⟩

set_option maxRecDepth 100000 in
set_option maxHeartbeats 2000000 in
theorem specIrqOK (l0 : d0.length = n0) (l1 : d1.length = n1) (m0 : n0 ≤ maxLen) (m1 : n1 ≤ maxLen) (h0 : IntL w A0 d0) :
    Calls Try.prog 24 #[.agg #[.slice A0 n0 c0, .slice A1 n1 c1]] w fun e w' => e = .returned (.bool (okIrq d0 d1)) ∧ Below w.heap.size w w' := by
  have hb0 := alloc_below w (.cells #[.slice A0 n0 c0, .slice A1 n1 c1] 26)
  have X0 := Lib.hid (Box.new w 26 #[.slice A0 n0 c0, .slice A1 n1 c1])
  have H := Lib.hid (h0.below hb0)
  have HL := Lib.hid (And.intro l0 l1)
  unfold maxLen at m0 m1
  clear l0 l1 h0
  obtain ⟨W0, hW0⟩ : ∃ W0, W0 = (w.alloc (.cells #[.slice A0 n0 c0, .slice A1 n1 c1] 26)) := ⟨_, rfl⟩
  rw [← hW0] at hb0 X0 H
  have HW0 := Lib.hid hW0
  clear hW0
  by_cases e0 : n0 = 8
  · have q0 : ((n0 : Int) != 8) = false := by simp; omega
    by_cases e1 : n1 = 8
    · have q1 : ((n1 : Int) != 8) = false := by simp; omega
      have HY := Lib.hid (okIrq_yes d0 d1 (by rw [HL.out.1]; exact e0) (by rw [HL.out.2]; exact e1))
      have HL8 : Hid (d0.length = 8) := Lib.hid (by rw [HL.out.1]; exact e0)
      generalize okIrq d0 d1 = r at HY
      subst e0
      clear e1
      go_enter Try.func24, Try.ntmps24
      go_wp2
      rw [← HW0.out]
      go_loop [3] (fun i => ∃ k : Nat, k ≤ 8 ∧ i = .int .i64 k ∧ Hid (d0.all lvB = (d0.drop k).all lvB)) (fun i => 8 - (intOf i).toNat)
      case atStart => exact ⟨0, Nat.zero_le _, rfl, Lib.hid rfl⟩
      case round =>
        obtain ⟨k, hk, rfl, HT⟩ := hrel
        by_cases hlt : k < 8
        · obtain ⟨b, off, rfl, hc⟩ := H.out k (by rw [HL8.out]; exact hlt)
          have HS := Lib.hid (all_step lvB d0 0 k (by rw [HL8.out]; exact hlt))
          generalize d0.getD k 0 = x at hc HS
          have hi : (k : Int) < 8 := by omega
          have x0 := X0.out.cell 0 rfl
          by_cases hE : lvB x = true
          · go_wp2_with (first | (go_at_call 35; refine (l01In7 _ _).mono ?_; rintro e w' ⟨rfl, rfl⟩; rw [hE]))
            go_round
            case rel => exact ⟨k + 1, by omega, by go_num, Lib.hid (by rw [HT.out, HS.out, hE]; rfl)⟩
            case measure => simp [intOf]; omega
          · have hE' : lvB x = false := by simpa using hE
            clear hE
            go_wp2_with (first | (go_at_call 35; refine (l01In7 _ _).mono ?_; rintro e w' ⟨rfl, rfl⟩; rw [hE']))
            go_ret
            exact ⟨ret_bool (by rw [HY.out, HT.out, HS.out, hE']; rfl), hb0⟩
        · have HT2 : Hid (r = true) := Lib.hid (by rw [HY.out, HT.out]; exact all_end _ _ _ (by rw [HL8.out]; omega))
          go_wp2
          go_ret
          exact ⟨ret_bool HT2.out.symm, hb0⟩
    · have q1 : ((n1 : Int) != 8) = true := by simp; omega
      have HY := Lib.hid (okIrq_no2 d0 d1 (by rw [HL.out.2]; exact e1))
      clear e0 e1
      go_enter Try.func24, Try.ntmps24
      go_wp2
      rw [← HW0.out]
      all_goals go_ret
      all_goals exact ⟨ret_bool HY.out.symm, hb0⟩
  · have q0 : ((n0 : Int) != 8) = true := by simp; omega
    have HY := Lib.hid (okIrq_no1 d0 d1 (by rw [HL.out.1]; exact e0))
    clear e0
    go_enter Try.func24, Try.ntmps24
    go_wp2
    rw [← HW0.out]
    all_goals go_ret
    all_goals exact ⟨ret_bool HY.out.symm, hb0⟩

set_option maxRecDepth 100000 in
theorem implIrqOK (l0 : d0.length = n0) (l1 : d1.length = n1) (m0 : n0 ≤ maxLen) (m1 : n1 ≤ maxLen) (h0 : IntL w A0 d0) :
    Calls Try.prog 17 #[.agg #[.slice A0 n0 c0, .slice A1 n1 c1]] w fun e w' => e = .returned (.bool (okIrq d0 d1)) ∧ Below w.heap.size w w' := by
  have hb0 := alloc_below w (.cells #[.slice A0 n0 c0, .slice A1 n1 c1] 26)
  have HV := Lib.hid (irqValid A0 A1 n0 n1 c0 c1 d0 d1 _ l0 l1 m0 m1 (h0.below hb0))
  clear l0 l1 m0 m1 h0
  go_enter Try.func17, Try.ntmps17
  go_wp2_with fail
  refine HV.out.mono ?_
  rintro e w1 ⟨rfl, hb1⟩
  go_wp2
  go_ret
  exact ⟨rfl, bt hb0 hb1⟩

set_option maxRecDepth 100000 in
set_option maxHeartbeats 1000000 in
theorem checkLine (n : Int) (l0 : d0.length = n0) (l1 : d1.length = n1) (m0 : n0 ≤ maxLen) (m1 : n1 ≤ maxLen) (h0 : IntL w A0 d0) :
    Calls Try.prog 38 #[.agg #[.slice A0 n0 c0, .slice A1 n1 c1], .int .i64 n] w fun e w' => e = .returned (.int .i64 (lineC d0 d1 n)) ∧ Below w.heap.size w w' := by
  have hb0 := alloc_below w (.cells #[.slice A0 n0 c0, .slice A1 n1 c1] 26)
  have HV := Lib.hid (irqValid A0 A1 n0 n1 c0 c1 d0 d1 _ l0 l1 m0 m1 (h0.below hb0))
  obtain ⟨r, hr⟩ : ∃ r, lineC d0 d1 n = r := ⟨_, rfl⟩
  rw [hr]
  unfold lineC at hr
  generalize okIrq d0 d1 = o at HV hr
  obtain ⟨v, hv⟩ : ∃ v, lvB n = v := ⟨_, rfl⟩
  rw [hv] at hr
  clear l0 l1 m0 m1 h0
  cases o <;> cases v <;> (
    simp only [if_true, if_false, Bool.false_eq_true] at hr
    subst hr
    go_enter Try.func38, Try.ntmps38
    go_wp2_with fail
    refine HV.out.mono ?_
    rintro e w1 ⟨rfl, hb1⟩
    go_wp2_with (first | (go_at_call 58; refine (isLine _ _).mono ?_; rintro e w' ⟨rfl, rfl⟩; rw [hv]))
    go_ret
    exact ⟨rfl, bt hb0 hb1⟩)

set_option maxRecDepth 100000 in
set_option maxHeartbeats 1000000 in
theorem l06Ask (n : Int) (l0 : d0.length = n0) (l1 : d1.length = n1) (m0 : n0 ≤ maxLen) (m1 : n1 ≤ maxLen) (h0 : IntL w A0 d0) :
    Calls Try.prog 50 #[.agg #[.slice A0 n0 c0, .slice A1 n1 c1], .int .i64 n] w fun e w' => e = .returned (.int .i64 (lineC d0 d1 n)) ∧ Below w.heap.size w w' := by
  have hb0 := alloc_below w (.cells #[.slice A0 n0 c0, .slice A1 n1 c1] 26)
  have HV := Lib.hid (specIrqOK A0 A1 n0 n1 c0 c1 d0 d1 _ l0 l1 m0 m1 (h0.below hb0))
  obtain ⟨r, hr⟩ : ∃ r, lineC d0 d1 n = r := ⟨_, rfl⟩
  rw [hr]
  unfold lineC at hr
  generalize okIrq d0 d1 = o at HV hr
  obtain ⟨v, hv⟩ : ∃ v, lvB n = v := ⟨_, rfl⟩
  rw [hv] at hr
  clear l0 l1 m0 m1 h0
  cases o <;> cases v <;> (
    simp only [if_true, if_false, Bool.false_eq_true] at hr
    subst hr
    go_enter Try.func50, Try.ntmps50
    go_wp2_with fail
    refine HV.out.mono ?_
    rintro e w1 ⟨rfl, hb1⟩
    go_wp2_with (first | (go_at_call 35; refine (l01In7 _ _).mono ?_; rintro e w' ⟨rfl, rfl⟩; rw [hv]))
    go_ret
    exact ⟨rfl, bt hb0 hb1⟩)
end
end Go.Proofs.Ytamfapmkdojhcaa

/- The contract of chip.flash: a chip as a flash. -/
namespace Go.Proofs.Ytamfapmkdojhcaa
open Go.RowKit

theorem made_row {w : World} {b n : Nat} {v : Value} {t : TypeId} (h : w.heap[b]? = some (.cells (madeCells #[v] n) t (0, 0))) : w.rowIs b t n (fun _ => v) := by
  obtain ⟨cs, hc, hs, hi⟩ := World.rowIs_made w v n t
  have e : (w.alloc (.cells (madeCells #[v] n) t)).heap[w.heap.size]? = some (.cells (madeCells #[v] n) t (0, 0)) := Box.new w t (madeCells #[v] n)
  rw [e] at hc
  injection hc with hc
  injection hc with hc _
  exact ⟨cs, by rw [h, hc], hs, hi⟩
theorem three_new (W : World) (o1 o2 o3 : Obj) : (((W.alloc o1).alloc o2).alloc o3).heap[W.heap.size]? = some o1 ∧ (((W.alloc o1).alloc o2).alloc o3).heap[W.heap.size + 1]? = some o2 ∧ (((W.alloc o1).alloc o2).alloc o3).heap[W.heap.size + 1 + 1]? = some o3 := by
  refine ⟨?_, ?_, ?_⟩
  · show (((W.heap.push o1).push o2).push o3)[W.heap.size]? = some o1
    rw [Array.getElem?_push, if_neg (by simp only [Array.size_push]; omega), Array.getElem?_push, if_neg (by simp only [Array.size_push]; omega), Array.getElem?_push, if_pos rfl]
  · show (((W.heap.push o1).push o2).push o3)[W.heap.size + 1]? = some o2
    rw [Array.getElem?_push, if_neg (by simp only [Array.size_push]; omega), Array.getElem?_push, if_pos (by simp only [Array.size_push])]
  · show (((W.heap.push o1).push o2).push o3)[W.heap.size + 1 + 1]? = some o3
    rw [Array.getElem?_push, if_pos (by simp only [Array.size_push])]
/-- A copy as one step of a region that draws: one block turns. -/
theorem step_copy_btw {P : Program} {ops : Array Oper} {o : Oper} {a : Act} {w : World} {K : Act → World → Prop} {Q : Exit → Act → World → Prop} {E : Prop} (hgd : o.guard = none) (d s : Operand) (dT sT : TypeId)
    (ho : o.op = .call { callee := .builtin .copy, args := #[d, s], argTypes := #[dT, sT] }) (elem : TypeId) (hu : P.underlying dT = some (.slice elem)) (hsz : (P.info? elem).map (·.size) = some 1)
    (g off dLen dCap : Nat) (ad : Addr) (sLen sCap : Nat) (hd : a.eval d = .slice (some ⟨g, off, none⟩) dLen dCap) (hs : a.eval s = .slice (some ad) sLen sCap)
    (cur : List Value) (t : TypeId) (hg : w.heap[g]? = some (.cells cur.toArray t (0, 0))) (cs : List Value) (hn : cs.length = Nat.min sLen dLen)
    (hsrc : ∀ j v, cs[j]? = some v → w.cell? (ad.add j) = some v)
    (hfit : off + cs.length ≤ cur.length) (h1 : ∀ v ∈ cs, v.oneCell' = true)
    (h : ∀ w', Hid (w'.heap[g]? = some (.cells (splice cur off cs).toArray t (0, 0))) → Btw g (g + 1) w w' → K (a.put o.dst (goInt cs.length)) w') :
    if Region.wanted o (yielded ops a.tmps) = true then Oper.wp P o a w K Q else E := by
  have hw : Region.wanted o (yielded ops a.tmps) = true := by simp [Region.wanted, hgd]
  rw [if_pos hw]
  have hrun := run_copy_row (P := P) w dT sT o.type elem g off dLen dCap ad sLen sCap cur.toArray t cs hu hsz hg hn hsrc (by simpa using hfit) h1
  unfold Oper.wp
  simp [execOp, ho, resolve, invoke, builtin, hd, hs, hrun, Result.andThen]
  exact h _ (show _ = _ by simpa [splice] using setRow_heap w g _ _ t _ hg) ⟨rfl, rfl, rfl, by simp [World.setRow], fun k _ hk => setRow_other w g k _ (by omega)⟩
theorem row_heap {w : World} {b n : Nat} {t : TypeId} {f : Nat → Value} (h : w.rowIs b t n f) : ∃ cur : List Value, cur.length = n ∧ w.heap[b]? = some (.cells cur.toArray t (0, 0)) := by
  obtain ⟨cs, hc, hs, _⟩ := h
  exact ⟨cs.toList, by simpa using hs, by simpa using hc⟩
theorem splice_all {α : Type} (l m : List α) (h : l.length = m.length) : splice l 0 m = m := by
  unfold splice
  rw [List.take_zero, List.nil_append, Nat.zero_add, ← h, List.drop_length, List.append_nil]
theorem ownB_row {w : World} {lo b : Nat} {gs : List Bool} (h : w.heap[b]? = some (.cells (cellsB gs).toArray 4 (0, 0))) (hlo : lo ≤ b) : OwnB w lo w.heap.size (some ⟨b, 0, none⟩) gs := by
  have hr : w.rowIs b 4 gs.length (fun i => .bool (gs.getD i false)) := ⟨_, h, by simp [cellsB], fun i hi => by
    show _ = some (Value.bool (gs.getD i false))
    rw [List.getElem?_toArray]
    unfold cellsB
    rw [List.getElem?_map, List.getD_eq_getElem?_getD, List.getElem?_eq_getElem hi]
    rfl⟩
  exact .inr ⟨b, gs.length, _, rfl, hlo, hr.lt, Nat.le_refl _, hr, fun i _ => rfl⟩
def cellsU (zs : List Int) : List Value := zs.map fun z => Value.int .u8 z
theorem cellsU_len (zs : List Int) : (cellsU zs).length = zs.length := by simp [cellsU]
theorem cellsU_at (zs : List Int) (j : Nat) (h : j < zs.length) : (cellsU zs)[j]? = some (.int .u8 (zs.getD j 0)) := by
  unfold cellsU
  rw [List.getElem?_map, List.getD_eq_getElem?_getD, List.getElem?_eq_getElem h]
  rfl
set_option maxRecDepth 100000 in
theorem sizeU8 : (Try.prog.info? 5).map (·.size) = some 1 := by kernel_rfl
end Go.Proofs.Ytamfapmkdojhcaa

/- Contracts of commanded, chip.next, chip.wipe. -/
namespace Go.Proofs.Ytamfapmkdojhcaa
open Go.RowKit

def cmdS (v : Int) : Int := if v = 160 then 3 else if v = 128 then 4 else if v = 144 then 7 else if v = 154 then 8 else 0
def nextS (st k v : Int) : Int :=
  if st = 0 ∨ st = 4 then (if k = 85 ∧ v = 170 then st + 1 else 0)
  else if st = 1 ∨ st = 5 then (if k = 42 ∧ v = 85 then st + 1 else 0)
  else if st = 2 then (if k = 85 then cmdS v else 0)
  else if st = 7 then (if v = 240 then 0 else 7)
  else 0
def eraseN (zs : List Int) (gs : List Bool) : Nat → List Int
  | 0 => zs
  | n + 1 => eraseL (eraseN zs gs n) gs n
theorem eraseN_len (zs : List Int) (gs : List Bool) : ∀ n, (eraseN zs gs n).length = zs.length
  | 0 => rfl
  | n + 1 => by rw [eraseN, eraseL_len, eraseN_len zs gs n]
def wipeZ (zs : List Int) (gs : List Bool) (k v : Nat) : List Int :=
  if v = 16 then (if k = 85 then eraseN zs gs 16 else zs) else if v = 48 then eraseL zs gs (k / 16) else zs
theorem wipeZ_len (zs : List Int) (gs : List Bool) (k v : Nat) : (wipeZ zs gs k v).length = zs.length := by
  unfold wipeZ
  split
  · split
    · exact eraseN_len _ _ _
    · rfl
  · split
    · exact eraseL_len _ _ _
    · rfl

end Go.Proofs.Ytamfapmkdojhcaa

/- Contracts of chip.wipe and chip.cycle. -/
namespace Go.Proofs.Ytamfapmkdojhcaa
open Go.RowKit

end Go.Proofs.Ytamfapmkdojhcaa

/- The model's l03Guard and l03Erase. -/
namespace Go.Proofs.Ytamfapmkdojhcaa
open Go.RowKit

end Go.Proofs.Ytamfapmkdojhcaa

/- What the functions that hand back a flash and a code answer; the model's ProgramCell, EraseBlock, GuardBlock. -/
namespace Go.Proofs.Ytamfapmkdojhcaa
open Go.RowKit

def gate (cd : Int) (zs : List Int) (gs : List Bool) (st : Int) : List Int × List Bool × Int × Int := if cd = 0 then (zs, gs, st, 0) else ([], [], 0, cd)
def progOf (zs : List Int) (gs : List Bool) (st a v : Int) := gate (codeIf (okFlash zs gs st) (byB a && byB v)) (progL zs gs a.toNat v.toNat) gs st
def eraseOf (zs : List Int) (gs : List Bool) (st a : Int) := gate (codeIf (okFlash zs gs st) (blkB a)) (eraseL zs gs a.toNat) gs st
def guardOf (zs : List Int) (gs : List Bool) (st a : Int) := gate (codeIf (okFlash zs gs st) (blkB a)) zs (gs.set a.toNat true) st
theorem codeIf_ok {f ok : Bool} (h : codeIf f ok = 0) : f = true ∧ ok = true := by unfold codeIf at h; cases f <;> cases ok <;> simp_all
theorem gate_bound {f ok : Bool} {zs : List Int} {gs : List Bool} {st : Int} (h : f = true → zs.length ≤ 1048576 ∧ gs.length ≤ 1048576) : (gate (codeIf f ok) zs gs st).1.length ≤ 1048576 ∧ (gate (codeIf f ok) zs gs st).2.1.length ≤ 1048576 := by
  unfold gate
  by_cases q : codeIf f ok = 0
  · rw [if_pos q]; exact h (codeIf_ok q).1
  · rw [if_neg q]; simp
theorem progOf_bound (zs : List Int) (gs : List Bool) (st a v : Int) : (progOf zs gs st a v).1.length ≤ 1048576 ∧ (progOf zs gs st a v).2.1.length ≤ 1048576 := gate_bound (fun h => by have := okFlash_len h; rw [progL_len]; omega)
theorem eraseOf_bound (zs : List Int) (gs : List Bool) (st a : Int) : (eraseOf zs gs st a).1.length ≤ 1048576 ∧ (eraseOf zs gs st a).2.1.length ≤ 1048576 := gate_bound (fun h => by have := okFlash_len h; rw [eraseL_len]; omega)
theorem guardOf_bound (zs : List Int) (gs : List Bool) (st a : Int) : (guardOf zs gs st a).1.length ≤ 1048576 ∧ (guardOf zs gs st a).2.1.length ≤ 1048576 := gate_bound (fun h => by have := okFlash_len h; rw [List.length_set]; omega)
theorem progL_range {zs : List Int} {gs : List Bool} {k v : Nat} (h : ∀ z ∈ zs, 0 ≤ z ∧ z ≤ 255) (hv : v < 256) : ∀ z ∈ progL zs gs k v, 0 ≤ z ∧ z ≤ 255 := by
  intro z hz
  unfold progL at hz
  split at hz
  · exact h z hz
  · rcases List.mem_or_eq_of_mem_set hz with q | rfl
    · exact h z q
    · have := and_lt v (zs.getD k 0).toNat hv
      rw [Nat.and_comm] at this
      omega
theorem fillR_range {zs : List Int} (h : ∀ z ∈ zs, 0 ≤ z ∧ z ≤ 255) (a b : Nat) : ∀ z ∈ fillR zs a b, 0 ≤ z ∧ z ≤ 255 := by
  intro z hz
  unfold fillR at hz
  obtain ⟨i, hi, rfl⟩ := List.mem_map.1 hz
  have hi' : i < zs.length := by simpa using hi
  split
  · omega
  · exact h _ (by rw [List.getD_eq_getElem?_getD, List.getElem?_eq_getElem hi']; exact List.getElem_mem _)
theorem eraseL_range {zs : List Int} {gs : List Bool} {b : Nat} (h : ∀ z ∈ zs, 0 ≤ z ∧ z ≤ 255) : ∀ z ∈ eraseL zs gs b, 0 ≤ z ∧ z ≤ 255 := by
  intro z hz
  unfold eraseL at hz
  split at hz
  · exact h z hz
  · exact fillR_range h _ _ z hz
def GivesOf (r : List Int × List Bool × Int × Int) (w : World) (e : Ending) (w' : World) : Prop := GivesFlashCode r.1 r.2.1 r.2.2.1 r.2.2.2 w e w'

end Go.Proofs.Ytamfapmkdojhcaa

/- The contract of chip.cycle. -/
namespace Go.Proofs.Ytamfapmkdojhcaa
open Go.RowKit

def cycZ (zs : List Int) (gs : List Bool) (st : Int) (k v : Nat) : List Int := if st = 3 then progL zs gs k v else if st = 6 then wipeZ zs gs k v else zs
def cycG (gs : List Bool) (st : Int) (k : Nat) : List Bool := if st = 8 then gs.set (k / 16) true else gs
theorem cycZ_len (zs : List Int) (gs : List Bool) (st : Int) (k v : Nat) : (cycZ zs gs st k v).length = zs.length := by
  unfold cycZ
  split
  · exact progL_len _ _ _ _
  · split
    · exact wipeZ_len _ _ _ _
    · rfl
theorem cycG_len (gs : List Bool) (st : Int) (k : Nat) : (cycG gs st k).length = gs.length := by
  unfold cycG
  split
  · exact List.length_set
  · rfl
theorem eraseN_range {zs : List Int} {gs : List Bool} (h : ∀ z ∈ zs, 0 ≤ z ∧ z ≤ 255) : ∀ n, ∀ z ∈ eraseN zs gs n, 0 ≤ z ∧ z ≤ 255
  | 0 => h
  | n + 1 => eraseL_range (eraseN_range h n)
theorem wipeZ_range {zs : List Int} {gs : List Bool} {k v : Nat} (h : ∀ z ∈ zs, 0 ≤ z ∧ z ≤ 255) : ∀ z ∈ wipeZ zs gs k v, 0 ≤ z ∧ z ≤ 255 := by
  unfold wipeZ
  split
  · split
    · exact eraseN_range h 16
    · exact h
  · split
    · exact eraseL_range h
    · exact h
theorem cycZ_range {zs : List Int} {gs : List Bool} {st : Int} {k v : Nat} (h : ∀ z ∈ zs, 0 ≤ z ∧ z ≤ 255) (hv : v < 256) : ∀ z ∈ cycZ zs gs st k v, 0 ≤ z ∧ z ≤ 255 := by
  unfold cycZ
  split
  · exact progL_range h hv
  · split
    · exact wipeZ_range h
    · exact h
theorem nextS_in (st k v : Int) : 0 ≤ nextS st k v ∧ nextS st k v ≤ 8 := by
  unfold nextS cmdS
  split
  · split <;> omega
  · split
    · split <;> omega
    · split
      · split
        · split
          · omega
          · split
            · omega
            · split
              · omega
              · split <;> omega
        · omega
      · split
        · split <;> omega
        · omega

theorem wpStill_load_mid {P : Program} {ops : Array Oper} {w : World} {Q : Act → Prop} {a : Act} {o : Oper} {rest : List Oper} (hgd : o.guard = none) (ty : TypeId) (x : Operand) (ho : o.op = .load ty x)
    (b off : Nat) (hx : a.eval x = .pointer (some ⟨b, off, none⟩)) (cs : List Value) (d : TypeDesc) (hc : w.rangeAt b off cs) (hu : P.underlying ty = some d) (hd : d.isRow = true) (hi : (P.info? ty).map (·.size) = some cs.length)
    (h : wpStill P ops w Q rest (a.put o.dst (.agg cs.toArray))) : wpStill P ops w Q (o :: rest) a :=
  wpStill_step (fun K hK => by
    rw [if_pos (by simp [Region.wanted, hgd])]
    unfold Oper.still execOp
    simp only [ho, hx, Instr.loadAt, Instr.sureAddr, Sem.run_bind, Sem.run_pure, Result.andThen_ok, run_loadVar_mid w b off ty cs d hc hu hd hi]
    rw [Oper.stillUpon_value]
    exact hK _ h)

end Go.Proofs.Ytamfapmkdojhcaa

/- The memory bus in plain words: which memories are valid, the regions, what a read gives and a write leaves. -/
namespace Go.Proofs.Ytamfapmkdojhcaa
open Go.RowKit

def okMem (r i : List Int) (zs : List Int) (gs : List Bool) (st : Int) : Bool := (decide (r.length = 256) && decide (i.length = 32)) && ((r.all byB && i.all byB) && okFlash zs gs st)
def adB (a : Int) : Bool := decide (0 ≤ a ∧ a ≤ 4095)
def regR (a : Int) : Int := if a < 256 then 1 else if a < 288 then 2 else if 512 ≤ a ∧ a ≤ 767 then 3 else 0
def regK (a : Int) : Int := if a < 256 then a else if a < 288 then a - 256 else if 512 ≤ a ∧ a ≤ 767 then a - 512 else 0
theorem adB_range {a : Int} (h : adB a = true) : 0 ≤ a ∧ a ≤ 4095 := by unfold adB at h; simpa using h
theorem adB_of {a : Int} (h : 0 ≤ a ∧ a ≤ 4095) : adB a = true := by unfold adB; simpa using h
theorem all_bytes {zs : List Int} (h : zs.all byB = true) : ∀ z ∈ zs, 0 ≤ z ∧ z ≤ 255 := fun z hz => byB_range (List.all_eq_true.1 h z hz)
theorem okMem_len {r i zs : List Int} {gs : List Bool} {st : Int} (h : okMem r i zs gs st = true) : r.length = 256 ∧ i.length = 32 ∧ r.all byB = true ∧ i.all byB = true ∧ okFlash zs gs st = true := by
  unfold okMem at h
  simp only [Bool.and_eq_true, decide_eq_true_eq] at h
  exact ⟨h.1.1, h.1.2, h.2.1.1, h.2.1.2, h.2.2⟩
theorem okMem_mk {r i zs : List Int} {gs : List Bool} {st : Int} (h1 : r.length = 256) (h2 : i.length = 32) (h3 : r.all byB = true) (h4 : i.all byB = true) (h5 : okFlash zs gs st = true) : okMem r i zs gs st = true := by
  unfold okMem; simp [h1, h2, h3, h4, h5]
theorem okMem_no1 (r i zs : List Int) (gs : List Bool) (st : Int) (h : r.length ≠ 256) : okMem r i zs gs st = false := by unfold okMem; simp [h]
theorem okMem_no2 (r i zs : List Int) (gs : List Bool) (st : Int) (h : i.length ≠ 32) : okMem r i zs gs st = false := by unfold okMem; simp [h]
theorem okMem_no3 (r i zs : List Int) (gs : List Bool) (st : Int) (h : r.all byB = false) : okMem r i zs gs st = false := by unfold okMem; simp [h]
theorem okMem_no4 (r i zs : List Int) (gs : List Bool) (st : Int) (h : i.all byB = false) : okMem r i zs gs st = false := by unfold okMem; simp [h]
theorem okMem_yes (r i zs : List Int) (gs : List Bool) (st : Int) (h1 : r.length = 256) (h2 : i.length = 32) (h3 : r.all byB = true) (h4 : i.all byB = true) : okMem r i zs gs st = okFlash zs gs st := by unfold okMem; simp [h1, h2, h3, h4]

/-- What is read at an address. -/
def getV (r i zs : List Int) (gs : List Bool) (rd : List Int → List Bool → Int → Nat → Int) (st a : Int) : Int :=
  if regR a = 1 then r.getD (regK a).toNat 0 else if regR a = 2 then i.getD (regK a).toNat 0 else if regR a = 3 then rd zs gs st (regK a).toNat else 255
/-- The memory behind a write. -/
def putR (r : List Int) (a v : Int) : List Int := if regR a = 1 then r.set (regK a).toNat v else r
def putI (i : List Int) (a v : Int) : List Int := if regR a = 2 ∧ 0 < regK a then i.set (regK a).toNat v else i
def putZ (zs : List Int) (gs : List Bool) (st a v : Int) : List Int := if regR a = 3 then cycZ zs gs st (regK a).toNat v.toNat else zs
def putG (gs : List Bool) (st a : Int) : List Bool := if regR a = 3 then cycG gs st (regK a).toNat else gs
def putS (st a v : Int) : Int := if regR a = 3 then nextS st (regK a) v else st
theorem putR_len (r : List Int) (a v : Int) : (putR r a v).length = r.length := by unfold putR; split <;> simp
theorem putI_len (i : List Int) (a v : Int) : (putI i a v).length = i.length := by unfold putI; split <;> simp
theorem putZ_len (zs : List Int) (gs : List Bool) (st a v : Int) : (putZ zs gs st a v).length = zs.length := by unfold putZ; split <;> simp [cycZ_len]
theorem putG_len (gs : List Bool) (st a : Int) : (putG gs st a).length = gs.length := by unfold putG; split <;> simp [cycG_len]

/-- The four ways of an address. -/
theorem reg_ways (k : Nat) (hk : k < 4096) : (k < 256 ∧ regR k = 1 ∧ regK k = k) ∨ (256 ≤ k ∧ k < 288 ∧ regR k = 2 ∧ regK k = ((k - 256 : Nat) : Int)) ∨ (512 ≤ k ∧ k < 768 ∧ regR k = 3 ∧ regK k = ((k - 512 : Nat) : Int)) ∨ (288 ≤ k ∧ (k < 512 ∨ 768 ≤ k) ∧ regR k = 0 ∧ regK k = 0) := by
  unfold regR regK
  by_cases h1 : k < 256
  · left; rw [if_pos (by omega), if_pos (by omega)]; exact ⟨h1, rfl, rfl⟩
  · right
    by_cases h2 : k < 288
    · left; rw [if_neg (by omega), if_pos (by omega), if_neg (by omega), if_pos (by omega)]; exact ⟨by omega, h2, rfl, by omega⟩
    · right
      by_cases h3 : 512 ≤ k ∧ k < 768
      · left; rw [if_neg (by omega), if_neg (by omega), if_pos (by omega), if_neg (by omega), if_neg (by omega), if_pos (by omega)]; exact ⟨h3.1, h3.2, rfl, by omega⟩
      · right; rw [if_neg (by omega), if_neg (by omega), if_neg (by omega), if_neg (by omega), if_neg (by omega), if_neg (by omega)]; exact ⟨by omega, by omega, rfl, rfl⟩
end Go.Proofs.Ytamfapmkdojhcaa

/- The laws' own functions over Flash, on leaves. Written by gen_t.py. -/
namespace Go.Proofs.Ytamfapmkdojhcaa
open Go.RowKit

end Go.Proofs.Ytamfapmkdojhcaa

/- The laws' own functions over Mem, on leaves. Written by gen_t.py. -/
namespace Go.Proofs.Ytamfapmkdojhcaa
open Go.RowKit

end Go.Proofs.Ytamfapmkdojhcaa

/- MemOK on both sides; impl.Mem.check; the regions on both sides. -/
namespace Go.Proofs.Ytamfapmkdojhcaa
open Go.RowKit

set_option maxRecDepth 100000 in
theorem l01In4095 (n : Int) (w : World) : Calls Try.prog 35 #[.int .i64 n, .int .i64 0, .int .i64 4095] w fun e w' => e = .returned (.bool (adB n)) ∧ w = w' := by
  go_enter Try.func35, Try.ntmps35
  go_wp2
  all_goals go_ret
  all_goals (refine ⟨ret_bool ?_, rfl⟩)
  all_goals (unfold adB; rw [Bool.eq_iff_iff]; simp; try omega)
set_option maxRecDepth 100000 in
theorem l01InF (n : Int) (w : World) : Calls Try.prog 35 #[.int .i64 n, .int .i64 512, .int .i64 767] w fun e w' => e = .returned (.bool (decide (512 ≤ n ∧ n ≤ 767))) ∧ w = w' := by
  go_enter Try.func35, Try.ntmps35
  go_wp2
  all_goals go_ret
  all_goals (refine ⟨ret_bool ?_, rfl⟩)
  all_goals (rw [Bool.eq_iff_iff]; simp; try omega)
end Go.Proofs.Ytamfapmkdojhcaa

/- slices.Clone of a row of ints that is not empty; the chip's read. -/
namespace Go.Proofs.Ytamfapmkdojhcaa
open Go.RowKit

/-- A row of the call's own. -/
def GivesRow (n : Nat) (zs : List Int) (w : World) (e : Ending) (w' : World) : Prop :=
  ∃ A c, e = .returned (.slice A n c) ∧ Hid (OwnI w' w.heap.size w'.heap.size A zs) ∧ Below w.heap.size w w'

set_option maxRecDepth 100000 in
set_option maxHeartbeats 1000000 in
theorem cloneI (A : Option Addr) (n c : Nat) (zs : List Int) (w : World) (hl : zs.length = n) (hn : 0 < n) (hn2 : n ≤ 256) (h : IntL w A zs) :
    Calls Try.prog 59 #[.slice A n c] w (GivesRow n zs w) := by
  obtain ⟨ad, rfl, -⟩ := h.src (by omega)
  have HS := Lib.hid (fun W (hb : Below w.heap.size w W) => (h.below hb).src (by omega))
  have HC : Hid ((cellsI zs).length = n * 1) := Lib.hid (by rw [cellsI_len]; omega)
  have hba := alloc_below w (.cells #[] 3)
  have hnil : ∀ W : World, (binOp .eql 23 (.slice (some ad) n c) (.slice none 0 0)).run Try.prog W = .ok (.bool false) W := fun W => Lib.run_eql_slice_nil W _ _ (some ad) n c 0 0 Try.underlying23
  clear hl h
  go_enter Try.func59, Try.ntmps59
  go_wp2_with (first | (with_reducible refine wpList_app_fresh rfl (.tmp 5) (.tmp 6) 23 rfl 3 (.int .i64 0) 1 8 Try.underlying23 infoIx rfl (by decide) _ rfl (some ad) n c hn (cellsI zs) rfl HC.out (HS.out _ hba) (by unfold maxLen; omega) (by omega) ?_))
  intro A1 c1 w1 hb1 O1
  have hk1 := hba.trans (hb1.mono (by omega))
  have S1 := Lib.hid (ownI_fresh (lo := w.heap.size) O1.out hn (by omega))
  clear HS HC hba hb1 O1
  go_wp2
  go_ret
  exact ⟨_, _, rfl, S1, hk1⟩
end Go.Proofs.Ytamfapmkdojhcaa

/- A region that draws its order, walked once by facts: each operation, once carried out, has its fact; a fact is kept by whatever comes behind it. -/
namespace Go.Proofs.Ytamfapmkdojhcaa
open Go.RowKit

/-- The slots that a fact looks at. -/
def mask (l : List Nat) (T : Array Value) : Nat → Value := fun s => if l.contains s then T.getD s undef else undef
/-- 'bef': what must have come up before an operation (closed under itself); 'sup': the slots of its fact; 'base': slots that the region leaves alone. -/
def regOk (ops : Array Oper) (sup bef : List (List Nat)) (base : List Nat) : Bool :=
  ((List.range ops.size).all fun i => match ops[i]? with
    | none => false
    | some o => o.guard.isNone && ((o.after.all fun e => decide (e.on < i)) && (((bef.getD i []).all fun j => o.after.any fun e => Region.binds .any e && (e.on == j || (bef.getD e.on []).contains j)) &&
        ((sup.getD i []).all fun s => (List.range ops.size).all fun j => (match ops[j]? with | some oj => oj.dst != some s | none => true) || ((j == i) || (bef.getD i []).contains j))))) &&
  (base.all fun s => (List.range ops.size).all fun j => match ops[j]? with | some oj => oj.dst != some s | none => true)

section
variable {P : Program} {ops : Array Oper} {Q : Exit → Act → World → Prop} {sup bef : List (List Nat)} {base : List Nat} {a : Act}

/-- What one operation owes. -/
def StepF (P : Program) (Q : Exit → Act → World → Prop) (sup bef : List (List Nat)) (base : List Nat) (a : Act) (C : World → Prop) (F : Nat → (Nat → Value) → World → Prop) (i : Nat) (o : Oper) : Prop :=
  ∀ (T : Array Value) (W : World), T.size = a.tmps.size → (∀ s ∈ base, T.getD s undef = a.tmps.getD s undef) → C W → (∀ j ∈ bef.getD i [], F j (mask (sup.getD j []) T) W) →
    ∀ K : Act → World → Prop, Shut (∀ v W', C W' → (∀ j t, j ≠ i → F j t W → F j t W') → F i (mask (sup.getD i []) (Act.put { a with tmps := T } o.dst v).tmps) W' → K (Act.put { a with tmps := T } o.dst v) W') →
      Oper.wp P o { a with tmps := T } W K Q
def StepsF (P : Program) (Q : Exit → Act → World → Prop) (sup bef : List (List Nat)) (base : List Nat) (a : Act) (C : World → Prop) (F : Nat → (Nat → Value) → World → Prop) : Nat → List Oper → Prop
  | _, [] => True
  | i, o :: l => StepF P Q sup bef base a C F i o ∧ StepsF P Q sup bef base a C F (i + 1) l
theorem StepsF.get {C : World → Prop} {F : Nat → (Nat → Value) → World → Prop} : ∀ {l : List Oper} {i : Nat}, StepsF P Q sup bef base a C F i l → ∀ j o, l[j]? = some o → StepF P Q sup bef base a C F (i + j) o
  | [], _, _, j, o, h => by simp at h
  | o' :: l, i, hs, 0, o, h => by simp at h; subst h; exact hs.1
  | o' :: l, i, hs, j + 1, o, h => by
    have := StepsF.get hs.2 j o (by simpa using h)
    rwa [show i + 1 + j = i + (j + 1) by omega] at this

structure InvF (ops : Array Oper) (sup bef : List (List Nat)) (base : List Nat) (a : Act) (C : World → Prop) (F : Nat → (Nat → Value) → World → Prop) (L : Array Bool) (T : Array Value) (W : World) : Prop where
  size : T.size = a.tmps.size
  same : ∀ s ∈ base, T.getD s undef = a.tmps.getD s undef
  c : C W
  lsz : L.size = ops.size
  down : ∀ i, L.getD i false = true → ∀ j ∈ bef.getD i [], L.getD j false = true
  fact : ∀ i, L.getD i false = true → F i (mask (sup.getD i []) T) W

theorem getD_set_bool (L : Array Bool) (i j : Nat) (hi : i < L.size) : (L.setIfInBounds i true).getD j false = if j = i then true else L.getD j false := by
  simp only [Array.getD_eq_getD_getElem?]
  rw [Array.getElem?_setIfInBounds]
  by_cases h : i = j
  · subst h; simp [hi]
  · rw [if_neg h, if_neg (fun q => h q.symm)]
theorem getD_set_val (T : Array Value) (d s : Nat) (v : Value) (h : s ≠ d) : (T.setIfInBounds d v).getD s undef = T.getD s undef := by
  simp only [Array.getD_eq_getD_getElem?]
  rw [Array.getElem?_setIfInBounds, if_neg (fun q => h q.symm)]

theorem regOk_spec (h : regOk ops sup bef base = true) :
    (∀ (i : Nat) (o : Oper), ops[i]? = some o → o.guard = none ∧ (∀ e ∈ o.after, e.on < i) ∧ (∀ j ∈ bef.getD i [], ∃ e ∈ o.after, Region.binds .any e = true ∧ (e.on = j ∨ j ∈ bef.getD e.on [])) ∧ (∀ s ∈ sup.getD i [], ∀ (j : Nat) (oj : Oper), ops[j]? = some oj → oj.dst = some s → j = i ∨ j ∈ bef.getD i [])) ∧
    (∀ s ∈ base, ∀ (j : Nat) (oj : Oper), ops[j]? = some oj → oj.dst ≠ some s) := by
  unfold regOk at h
  rw [Bool.and_eq_true, List.all_eq_true, List.all_eq_true] at h
  refine ⟨fun i o ho => ?_, fun s hs j oj hj hd => ?_⟩
  · have hi : i < ops.size := (Array.getElem?_eq_some_iff.1 ho).1
    have := h.1 i (List.mem_range.2 hi)
    rw [ho] at this
    simp only [Bool.and_eq_true, Array.all_eq_true_iff_forall_mem, List.all_eq_true, decide_eq_true_eq, Option.isNone_iff_eq_none] at this
    obtain ⟨h1, h2, h3, h4⟩ := this
    refine ⟨h1, h2, fun j hj => ?_, fun s hs j oj hoj hd => ?_⟩
    · have := h3 j hj
      obtain ⟨e, he, hb⟩ := Array.any_eq_true'.1 this
      simp only [Bool.and_eq_true, Bool.or_eq_true, beq_iff_eq, List.contains_iff_mem] at hb
      exact ⟨e, he, hb⟩
    · have hj : j < ops.size := (Array.getElem?_eq_some_iff.1 hoj).1
      have := h4 s hs j (List.mem_range.2 hj)
      rw [hoj] at this
      simp only [hd, Bool.or_eq_true, bne_self_eq_false, beq_iff_eq, List.contains_iff_mem] at this
      simpa using this
  · have hj' : j < ops.size := (Array.getElem?_eq_some_iff.1 hj).1
    have := List.all_eq_true.1 (h.2 s hs) j (List.mem_range.2 hj')
    rw [hj] at this
    simp [hd] at this

theorem ready_nil_all {L : Array Bool} (hL : L.size = ops.size) (hlow : ∀ (i : Nat) (o : Oper), ops[i]? = some o → ∀ e ∈ o.after, e.on < i) (h : Region.ready .any ops L = []) : ∀ i, i < ops.size → L.getD i false = true := by
  intro i
  induction i using Nat.strongRecOn with
  | ind i ih =>
    intro hi
    by_cases hl : L.getD i false = true
    · exact hl
    · exfalso
      have hm : i ∈ Region.ready .any ops L := mem_ready.2 ⟨by
        simp only [Array.getD_eq_getD_getElem?] at hl ⊢
        rw [Array.getElem?_eq_getElem (by omega)] at hl ⊢
        simpa using hl, ops[i], Array.getElem?_eq_getElem hi, fun e he _ => ih e.on (hlow i _ (Array.getElem?_eq_getElem hi) e he) (by have := hlow i _ (Array.getElem?_eq_getElem hi) e he; omega)⟩
      rw [h] at hm
      cases hm

theorem wpAny_facts (hok : regOk ops sup bef base = true) (C : World → Prop) (F : Nat → (Nat → Value) → World → Prop)
    (hstep : StepsF P Q sup bef base a C F 0 ops.toList)
    (hend : ∀ T W, T.size = a.tmps.size → (∀ s ∈ base, T.getD s undef = a.tmps.getD s undef) → C W → (∀ i, i < ops.size → F i (mask (sup.getD i []) T) W) → Q .normal { a with tmps := T } W) :
    ∀ (fuel : Nat) (L : Array Bool) (T : Array Value) (W : World), InvF ops sup bef base a C F L T W → (L.toList.count false ≤ fuel) → wpAny P .any ops Q fuel L { a with tmps := T } W := by
  obtain ⟨hops, hbase⟩ := regOk_spec hok
  have hlow := fun i o ho => (hops i o ho).2.1
  have fin : ∀ L T W, InvF ops sup bef base a C F L T W → Region.ready .any ops L = [] → Q .normal { a with tmps := T } W := fun L T W I hr => hend T W I.size I.same I.c (fun i hi => I.fact i (ready_nil_all I.lsz hlow hr i hi))
  intro fuel
  induction fuel with
  | zero =>
    intro L T W I hf
    have hr : Region.ready .any ops L = [] := by
      apply List.eq_nil_iff_forall_not_mem.2
      intro j hj
      obtain ⟨h1, o, ho, _⟩ := mem_ready.1 hj
      have hjl : j < L.size := by rw [I.lsz]; exact (Array.getElem?_eq_some_iff.1 ho).1
      have : false ∈ L.toList := by
        simp only [Array.getD_eq_getD_getElem?] at h1
        rw [Array.getElem?_eq_getElem hjl] at h1
        simp only [Option.getD_some] at h1
        rw [← h1]
        simp
      have := List.count_pos_iff.2 this
      omega
    exact ⟨hr, fin L T W I hr⟩
  | succ fuel ih =>
    intro L T W I hf
    refine ⟨fin L T W I, fun i hi => ?_⟩
    obtain ⟨h1, o, ho, hall⟩ := mem_ready.1 hi
    have hil : i < L.size := by rw [I.lsz]; exact (Array.getElem?_eq_some_iff.1 ho).1
    have hlf : L.getD i false = false := by
      simp only [Array.getD_eq_getD_getElem?] at h1 ⊢
      rw [Array.getElem?_eq_getElem hil] at h1 ⊢
      simpa using h1
    obtain ⟨hg, hlo, hbf, hsp⟩ := hops i o ho
    have hbef : ∀ j ∈ bef.getD i [], L.getD j false = true := fun j hj => by
      obtain ⟨e, he, hb, q⟩ := hbf j hj
      have he' := hall e he hb
      rcases q with rfl | q
      · exact he'
      · exact I.down e.on he' j q
    have hs : StepF P Q sup bef base a C F i o := by
      have := hstep.get i o (by simpa using ho)
      simpa using this
    refine wpOp_step ho (fun K' hK => ?_)
    rw [if_pos (by simp [Region.wanted, hg])]
    refine hs T W I.size I.same I.c (fun j hj => I.fact j (hbef j hj)) K' (fun v W' hc hkeep hnew => hK _ _ ?_)
    have hnotin : ∀ k, L.getD k false = true → k ≠ i := fun k hk e => by subst e; rw [hlf] at hk; cases hk
    have hput : (Act.put { a with tmps := T } o.dst v) = { a with tmps := (Act.put { a with tmps := T } o.dst v).tmps } := by
      unfold Act.put; cases o.dst <;> rfl
    have hslot : ∀ s, o.dst ≠ some s → (Act.put { a with tmps := T } o.dst v).tmps.getD s undef = T.getD s undef := fun s hd => by
      cases hdd : o.dst with
      | none => rfl
      | some d => exact getD_set_val T d s v (fun e => hd (by rw [hdd, e]))
    rw [hput]
    refine ih _ _ W' ⟨?_, ?_, hc, by simpa using I.lsz, ?_, ?_⟩ ?_
    · rw [← I.size]; cases hdd : o.dst <;> simp [Act.put]
    · intro s hsb
      rw [hslot s (hbase s hsb i o ho)]
      exact I.same s hsb
    · intro k hk j hj
      rw [getD_set_bool L i k hil] at hk
      rw [getD_set_bool L i j hil]
      by_cases hki : k = i
      · subst hki
        rw [hbef j hj]; simp
      · rw [if_neg hki] at hk
        rw [I.down k hk j hj]; simp
    · intro k hk
      rw [getD_set_bool L i k hil] at hk
      by_cases hki : k = i
      · subst hki; exact hnew
      · rw [if_neg hki] at hk
        have hF := hkeep k _ hki (I.fact k hk)
        have hmk : mask (sup.getD k []) (Act.put { a with tmps := T } o.dst v).tmps = mask (sup.getD k []) T := by
          funext s
          unfold mask
          by_cases hsup : s ∈ sup.getD k []
          · rw [if_pos (List.contains_iff_mem.2 hsup), if_pos (List.contains_iff_mem.2 hsup)]
            refine hslot s (fun hd => ?_)
            have hko : k < ops.size := by
              rw [← I.lsz]
              apply Classical.byContradiction
              intro hn
              simp only [Array.getD_eq_getD_getElem?] at hk
              rw [Array.getElem?_eq_none (by omega)] at hk
              cases hk
            rcases (hops k _ (Array.getElem?_eq_getElem hko)).2.2.2 s hsup i o ho hd with q | q
            · exact hki q.symm
            · have := I.down k hk i q
              rw [hlf] at this
              cases this
          · rw [if_neg (fun q => hsup (List.contains_iff_mem.1 q)), if_neg (fun q => hsup (List.contains_iff_mem.1 q))]
        rw [hmk]; exact hF
    · have hset : (L.setIfInBounds i true).toList = L.toList.set i true := by simp
      rw [hset]
      have hct : (L.toList.set i true).count false + 1 = L.toList.count false := by
        have hx : L.toList[i]'(by simpa using hil) = false := by
          simp only [Array.getD_eq_getD_getElem?] at hlf
          rw [Array.getElem?_eq_getElem hil] at hlf
          simpa using hlf
        rw [List.count_set (by simpa using hil)]
        have hpos : 0 < L.toList.count false := List.count_pos_iff.2 (by rw [← hx]; exact List.getElem_mem _)
        rw [hx]
        simp only [beq_self_eq_true, if_true, show (true == false) = false from rfl, Bool.false_eq_true, if_false]
        omega
      omega

/-- The law. -/
theorem wp_region_facts {id : Nat} {w : World} (hm : P.follows .mixedOrders = true) (sup bef : List (List Nat)) (base : List Nat) (hok : regOk ops sup bef base = true) (C : World → Prop) (F : Nat → (Nat → Value) → World → Prop) (hC : C w.drew)
    (hstep : StepsF P Q sup bef base a C F 0 ops.toList)
    (hend : ∀ T W, T.size = a.tmps.size → (∀ s ∈ base, T.getD s undef = a.tmps.getD s undef) → C W → (∀ i, i < ops.size → F i (mask (sup.getD i []) T) W) → Q .normal { a with tmps := T } W) :
    (Code.region id ops true).wp P Q a w := by
  refine wp_region_any hm ?_
  have := wpAny_facts hok C F hstep hend ops.size (Array.replicate ops.size false) a.tmps w.drew ⟨rfl, fun _ _ => rfl, hC, by simp, fun i hi => ?_, fun i hi => ?_⟩ (by simp)
  · exact this
  all_goals (
    exfalso
    simp only [Array.getD_eq_getD_getElem?] at hi
    rw [Array.getElem?_replicate] at hi
    split at hi <;> simp at hi)
end
end Go.Proofs.Ytamfapmkdojhcaa

/- A controller's value: eight levels and eight booleans, one cell each; controllerOf and controller.irq. Written by gen_ctl.py. -/
namespace Go.Proofs.Ytamfapmkdojhcaa
open Go.RowKit

def ctlC (ls : List Int) (ps : List Bool) : List Value := cellsI ls ++ cellsB ps
theorem ctlC_len (ls : List Int) (ps : List Bool) : (ctlC ls ps).length = ls.length + ps.length := by simp [ctlC, cellsI, cellsB]
theorem ctlC_level {ls : List Int} {ps : List Bool} (k : Nat) (hk : k < ls.length) : (ctlC ls ps)[k]? = some (.int .i64 (ls.getD k 0)) := by
  unfold ctlC cellsI
  rw [List.getElem?_append_left (by simpa using hk), List.getElem?_map, List.getD_eq_getElem?_getD, List.getElem?_eq_getElem hk]
  rfl
theorem ctlC_pend {ls : List Int} {ps : List Bool} (hz : ls.length = 8) (k : Nat) (hk : k < ps.length) : (ctlC ls ps)[8 + k]? = some (.bool (ps.getD k false)) := by
  unfold ctlC cellsI cellsB
  rw [List.getElem?_append_right (by simp [hz]), List.length_map, hz, Nat.add_sub_cancel_left, List.getElem?_map, List.getD_eq_getElem?_getD, List.getElem?_eq_getElem hk]
  rfl
theorem ctlC_setL {ls : List Int} {ps : List Bool} (k : Nat) (x : Int) (hk : k < ls.length) : (ctlC ls ps).set k (.int .i64 x) = ctlC (ls.set k x) ps := by
  unfold ctlC cellsI
  rw [List.set_append_left _ _ (by simpa using hk), List.map_set]
theorem ctlC_setP {ls : List Int} {ps : List Bool} (hz : ls.length = 8) (k : Nat) (x : Bool) : (ctlC ls ps).set (8 + k) (.bool x) = ctlC ls (ps.set k x) := by
  unfold ctlC cellsI cellsB
  rw [List.set_append_right _ _ (by simp [hz]), List.length_map, hz, Nat.add_sub_cancel_left, List.map_set]
theorem cellsI_one8 (zs : List Int) : ∀ v ∈ cellsI zs, v.oneCell' = true := fun v hv => by unfold cellsI at hv; obtain ⟨q, _, rfl⟩ := List.mem_map.1 hv; rfl
theorem ctlC_one (ls : List Int) (ps : List Bool) : ∀ v ∈ ctlC ls ps, v.oneCell' = true := by
  intro v hv
  unfold ctlC cellsI cellsB at hv
  simp only [List.mem_append, List.mem_map] at hv
  rcases hv with ⟨z, _, rfl⟩ | ⟨z, _, rfl⟩ <;> rfl
set_option maxRecDepth 100000 in
theorem sizeCtl : (Try.prog.info? 52).map (·.size) = some 16 := by kernel_rfl
set_option maxRecDepth 100000 in
theorem size8I : (Try.prog.info? 49).map (·.size) = some 8 := by kernel_rfl
set_option maxRecDepth 100000 in
theorem size8B : (Try.prog.info? 50).map (·.size) = some 8 := by kernel_rfl
theorem box_range {w : World} {b : Nat} {t : TypeId} {cs : List Value} (h : Box w b t cs.toArray) : w.rangeAt b 0 cs := fun j v hv => by
  rw [Nat.zero_add]; exact Box.cell h j (by simpa using hv)
theorem box_there {w : World} {b : Nat} {t : TypeId} {cs : Array Value} (h : Box w b t cs) : w.there b 0 cs.size := fun j hj => by
  rw [Nat.zero_add]
  exact ⟨by rw [Box.cell h j (Array.getElem?_eq_getElem hj)]; rfl, Box.frozen h j⟩
theorem box_put {w : World} {b : Nat} {t : TypeId} {cs : Array Value} (h : Box w b t cs) (vs : List Value) (hl : vs.length = cs.size) : Box (w.setCells b 0 vs) b t vs.toArray :=
  setCells_list vs [] cs.toList (by simpa using h) (by simpa using hl.symm)
theorem box_levels {w : World} {b : Nat} {t : TypeId} {ls : List Int} {ps : List Bool} (h : Box w b t (ctlC ls ps).toArray) : IntL w (some ⟨b, 0, none⟩) ls := fun k hk =>
  ⟨b, 0, rfl, by rw [Nat.zero_add]; exact Box.cell h k (by simpa using ctlC_level k hk)⟩
theorem box_pends {w : World} {b : Nat} {t : TypeId} {ls : List Int} {ps : List Bool} (h : Box w b t (ctlC ls ps).toArray) (hz : ls.length = 8) : BoolL w (some ⟨b, 8, none⟩) ps := fun k hk =>
  ⟨b, 8, rfl, Box.cell h (8 + k) (by simpa using ctlC_pend hz k hk)⟩
theorem IntL.range {w : World} {A : Option Addr} {zs : List Int} (h : IntL w A zs) (hn : 0 < zs.length) : ∃ b o, A = some ⟨b, o, none⟩ ∧ w.rangeAt b o (cellsI zs) := by
  obtain ⟨b, o, e, _⟩ := h 0 hn
  refine ⟨b, o, e, fun j v hv => ?_⟩
  have hj : j < zs.length := by have := (List.getElem?_eq_some_iff.1 hv).1; rwa [cellsI_len] at this
  obtain ⟨b', o', e', hc⟩ := h j hj
  rw [e] at e'
  injection e' with e'
  injection e' with q1 q2
  subst q1 q2
  rw [hc, ← hv]
  unfold cellsI
  rw [List.getElem?_map, List.getD_eq_getElem?_getD, List.getElem?_eq_getElem hj]
  rfl
theorem BoolL.range {w : World} {A : Option Addr} {gs : List Bool} (h : BoolL w A gs) (hn : 0 < gs.length) : ∃ b o, A = some ⟨b, o, none⟩ ∧ w.rangeAt b o (cellsB gs) := by
  obtain ⟨b, o, e, _⟩ := h 0 hn
  refine ⟨b, o, e, fun j v hv => ?_⟩
  have hj : j < gs.length := by have := (List.getElem?_eq_some_iff.1 hv).1; rwa [cellsB_len] at this
  obtain ⟨b', o', e', hc⟩ := h j hj
  rw [e] at e'
  injection e' with e'
  injection e' with q1 q2
  subst q1 q2
  rw [hc, ← hv]
  unfold cellsB
  rw [List.getElem?_map, List.getD_eq_getElem?_getD, List.getElem?_eq_getElem hj]
  rfl
theorem below_setCellsN {B b : Nat} {a : World} (hB : B ≤ b) : ∀ (vs : List Value) (o : Nat) (w : World), Below B a w → Below B a (w.setCells b o vs)
  | [], _, _, h => h
  | v :: vs, o, _, h => below_setCellsN hB vs (o + 1) _ (h.setCell hB v)
theorem eight {α : Type} (l : List α) (h : l.length = 8) : ∃ a0 a1 a2 a3 a4 a5 a6 a7 : α, l = [a0, a1, a2, a3, a4, a5, a6, a7] := by
  match l, h with
  | [a0, a1, a2, a3, a4, a5, a6, a7], _ => exact ⟨a0, a1, a2, a3, a4, a5, a6, a7, rfl⟩
def zL : List Int := List.replicate 8 0
def zP : List Bool := List.replicate 8 false
set_option maxRecDepth 100000 in
theorem infoCt : (Try.prog.info? 52).map (fun i => (i.zero, i.size)) = some (some (.agg (ctlC zL zP).toArray), 16) := by kernel_rfl
set_option maxRecDepth 100000 in
theorem infoCtx : ∃ i : TypeInfo, Try.prog.info? 52 = some i ∧ i.zero = some (.agg (ctlC zL zP).toArray) := by
  obtain ⟨i, hi, hzz⟩ := Option.map_eq_some_iff.1 infoCt
  simp only [Prod.mk.injEq] at hzz
  exact ⟨i, hi, hzz.1⟩
set_option maxRecDepth 100000 in
theorem buildCtl (ls : List Int) (ps : List Bool) (hl : ls.length = 8) (hp : ps.length = 8) (w : World) : (Instr.build 52 #[(0, .agg (cellsI ls).toArray), (1, .agg (cellsB ps).toArray)]).run Try.prog w = .ok (.agg (ctlC ls ps).toArray) w := by
  obtain ⟨a0, a1, a2, a3, a4, a5, a6, a7, rfl⟩ := eight ls hl
  obtain ⟨b0, b1, b2, b3, b4, b5, b6, b7, rfl⟩ := eight ps hp
  obtain ⟨i, hi, hz⟩ := infoCtx
  have hzv : (zeroValue 52).run Try.prog w = .ok (.agg (ctlC zL zP).toArray) w := by simp [zeroValue, typeInfo, hi, hz]
  obtain ⟨j, hj, hs⟩ := Option.map_eq_some_iff.1 size8I
  obtain ⟨k, hk, ht⟩ := Option.map_eq_some_iff.1 size8B
  simp [Instr.build, hzv, Value.cells, Instr.fill, sizeOf, typeInfo, hj, hs, hk, ht, cellsI, cellsB, ctlC, zL, zP, List.replicate]

set_option maxRecDepth 100000 in
theorem arrayI (A : Option Addr) (c : Nat) (w : World) : (Instr.arrayAt 49 (.slice A 8 c)).run Try.prog w = .ok (.pointer A) w := by
  simp [Instr.arrayAt, run_underlying Try.underlying49]
set_option maxRecDepth 100000 in
theorem arrayB (A : Option Addr) (c : Nat) (w : World) : (Instr.arrayAt 50 (.slice A 8 c)).run Try.prog w = .ok (.pointer A) w := by
  simp [Instr.arrayAt, run_underlying Try.underlying50]
theorem wp_toArray {P : Program} {o : Oper} {a : Act} {w : World} {K : Act → World → Prop} {Q : Exit → Act → World → Prop} (t : TypeId) (x : Operand) (ho : o.op = .sliceToArrayPointer t x) (u v : Value) (hx : a.eval x = u) (hr : (Instr.arrayAt t u).run P w = .ok v w) (h : K (a.put o.dst v) w) : Oper.wp P o a w K Q := by
  unfold Oper.wp execOp
  simp only [ho, hx, Sem.run_bind, Sem.run_pure, Result.andThen_ok, hr]
  exact h
theorem wp_build2 {P : Program} {o : Oper} {a : Act} {w : World} {K : Act → World → Prop} {Q : Exit → Act → World → Prop} (t : TypeId) (x y : Operand) (ho : o.op = .build t #[(0, x), (1, y)]) (u u' v : Value) (hx : a.eval x = u) (hy : a.eval y = u') (hr : (Instr.build t #[(0, u), (1, u')]).run P w = .ok v w) (h : K (a.put o.dst v) w) : Oper.wp P o a w K Q := by
  unfold Oper.wp execOp
  simp only [ho, hx, hy, Sem.run_bind, Sem.run_pure, Result.andThen_ok, List.map_toArray, List.map_cons, List.map_nil, hr]
  exact h

/-- A []bool of the call's own. -/
def GivesRowB (n : Nat) (gs : List Bool) (w : World) (e : Ending) (w' : World) : Prop :=
  ∃ A c, e = .returned (.slice A n c) ∧ Hid (OwnB w' w.heap.size w'.heap.size A gs) ∧ Below w.heap.size w w'
set_option maxRecDepth 100000 in
set_option maxHeartbeats 1000000 in
theorem cloneB (A : Option Addr) (n c : Nat) (gs : List Bool) (w : World) (hl : gs.length = n) (hn : 0 < n) (hn2 : n ≤ 256) (h : BoolL w A gs) :
    Calls Try.prog 60 #[.slice A n c] w (GivesRowB n gs w) := by
  obtain ⟨ad, rfl, -⟩ := h.src (by omega)
  have HS := Lib.hid (fun W (hb : Below w.heap.size w W) => (h.below hb).src (by omega))
  have HC : Hid ((cellsB gs).length = n * 1) := Lib.hid (by rw [cellsB_len]; omega)
  have hba := alloc_below w (.cells #[] 4)
  have hnil : ∀ W : World, (binOp .eql 24 (.slice (some ad) n c) (.slice none 0 0)).run Try.prog W = .ok (.bool false) W := fun W => Lib.run_eql_slice_nil W _ _ (some ad) n c 0 0 Try.underlying24
  clear hl h
  go_enter Try.func60, Try.ntmps60
  go_wp2_with (first | (with_reducible refine wpList_app_fresh rfl (.tmp 5) (.tmp 6) 24 rfl 4 (.bool false) 1 1 Try.underlying24 infoBx rfl (by decide) _ rfl (some ad) n c hn (cellsB gs) rfl HC.out (HS.out _ hba) (by unfold maxLen; omega) (by omega) ?_))
  intro A1 c1 w1 hb1 O1
  have hk1 := hba.trans (hb1.mono (by omega))
  have S1 := Lib.hid (ownB_fresh (lo := w.heap.size) O1.out hn (by omega))
  clear HS HC hba hb1 O1
  go_wp2
  go_ret
  exact ⟨_, _, rfl, S1, hk1⟩

theorem arr12 (T : Array Value) (h : T.size = 12) : ∃ t0 t1 t2 t3 t4 t5 t6 t7 t8 t9 t10 t11 : Value, T = #[t0, t1, t2, t3, t4, t5, t6, t7, t8, t9, t10, t11] := by
  obtain ⟨l⟩ := T
  match l, h with
  | [t0, t1, t2, t3, t4, t5, t6, t7, t8, t9, t10, t11], _ => exact ⟨t0, t1, t2, t3, t4, t5, t6, t7, t8, t9, t10, t11, rfl⟩

/-- A world of the region: what lay before is as it was, the result's block is there. -/
def RC (W0 : World) (m : Nat) (W : World) : Prop := Below (m + 1) W0 W ∧ m + 1 < W.heap.size ∧ ∃ cs : Array Value, cs.size = 16 ∧ Box W (m + 1) 52 cs
def ctoF (M b0 o0 b1 o1 : Nat) (s0 s1 : Value) (d0 : List Int) (d1 : List Bool) : Nat → (Nat → Value) → World → Prop
  | 0, t, _ => t 3 = .pointer (some ⟨M, 0, none⟩)
  | 1, t, _ => t 4 = s0
  | 2, t, _ => t 5 = .pointer (some ⟨b0, o0, none⟩)
  | 3, t, _ => t 6 = .agg (cellsI d0).toArray
  | 4, t, _ => t 7 = .pointer (some ⟨M, 1, none⟩)
  | 5, t, _ => t 8 = s1
  | 6, t, _ => t 9 = .pointer (some ⟨b1, o1, none⟩)
  | 7, t, _ => t 10 = .agg (cellsB d1).toArray
  | 8, t, _ => t 11 = .agg (ctlC d0 d1).toArray
  | 9, _, w => Box w (M + 1) 52 (ctlC d0 d1).toArray
  | _, _, _ => True
theorem ctoF_any {M b0 o0 b1 o1 : Nat} {s0 s1 : Value} {d0 : List Int} {d1 : List Bool} {w w' : World} : ∀ (j : Nat) (t : Nat → Value), j ≠ 9 → ctoF M b0 o0 b1 o1 s0 s1 d0 d1 j t w → ctoF M b0 o0 b1 o1 s0 s1 d0 d1 j t w'
  | 0, _, _, h | 1, _, _, h | 2, _, _, h | 3, _, _, h | 4, _, _, h | 5, _, _, h | 6, _, _, h | 7, _, _, h | 8, _, _, h => h
  | 9, _, n, _ => (n rfl).elim
  | _ + 10, _, _, _ => trivial

set_option maxRecDepth 100000 in
set_option maxHeartbeats 4000000 in
theorem controllerOf (A0 A1 : Option Addr) (c0 c1 : Nat) (d0 : List Int) (d1 : List Bool) (w : World) (l0 : d0.length = 8) (l1 : d1.length = 8) (h0 : IntL w A0 d0) (h1 : BoolL w A1 d1) :
    Calls Try.prog 33 #[.agg #[.slice A0 8 c0, .slice A1 8 c1]] w fun e w' => e = .returned (.agg (ctlC d0 d1).toArray) ∧ Below w.heap.size w w' := by
  obtain ⟨W0, hW0⟩ : ∃ W0, W0 = ((w.alloc (.cells #[.slice A0 8 c0, .slice A1 8 c1] 26)).alloc (.cells (ctlC zL zP).toArray 52)) := ⟨_, rfl⟩
  have hb0 : Below w.heap.size w W0 := by rw [hW0]; exact bt (alloc_below _ _) (alloc_below _ _)
  have X0 : Box W0 w.heap.size 26 #[.slice A0 8 c0, .slice A1 8 c1] := by rw [hW0]; exact (Box.new _ _ _).alloc _
  have Y0 : Box W0 (w.heap.size + 1) 52 (ctlC zL zP).toArray := by rw [hW0]; have := Box.new (w.alloc (.cells #[.slice A0 8 c0, .slice A1 8 c1] 26)) 52 (ctlC zL zP).toArray; rw [World.size_alloc] at this; exact this
  obtain ⟨b0, o0, rfl, -⟩ := h0.range (by omega)
  obtain ⟨b1, o1, rfl, -⟩ := h1.range (by omega)
  have HB : Hid (∀ W, RC W0 w.heap.size W → Below w.heap.size w W) := Lib.hid (fun W r => hb0.trans (r.1.mono (by omega)))
  have HG : Hid (∀ W, RC W0 w.heap.size W → W.rangeAt b0 o0 (cellsI d0) ∧ W.rangeAt b1 o1 (cellsB d1)) := Lib.hid (fun W r => by
    obtain ⟨x, y, e, q⟩ := (h0.below (HB.out _ r)).range (by omega)
    obtain ⟨x', y', e', q'⟩ := (h1.below (HB.out _ r)).range (by omega)
    injection e with e; injection e with r1 r2; subst r1 r2
    injection e' with e'; injection e' with r1 r2; subst r1 r2
    exact ⟨q, q'⟩)
  have HK : Hid (∀ W', RC W0 w.heap.size W' → W'.cell? ⟨w.heap.size, 0, none⟩ = some (.slice (some ⟨b0, o0, none⟩) 8 c0) ∧ W'.cell? ⟨w.heap.size, 1, none⟩ = some (.slice (some ⟨b1, o1, none⟩) 8 c1)) := Lib.hid (fun W' r => by
    have X := X0.below r.1 (by omega)
    exact ⟨X.cell 0 rfl, X.cell 1 rfl⟩)
  have HZ : Hid ((Try.prog.info? 49).map (·.size) = some (cellsI d0).length ∧ (Try.prog.info? 50).map (·.size) = some (cellsB d1).length) := Lib.hid ⟨by rw [cellsI_len, l0]; exact size8I, by rw [cellsB_len, l1]; exact size8B⟩
  have HL := Lib.hid (And.intro l0 l1)
  have HS : Hid ((ctlC d0 d1).toArray.size = 16 ∧ (Try.prog.info? 52).map (·.size) = some (ctlC d0 d1).toArray.size) := Lib.hid (by
    have q : (ctlC d0 d1).toArray.size = 16 := by rw [List.size_toArray, ctlC_len, l0, l1]
    exact ⟨q, by rw [q]; exact sizeCtl⟩)
  have hs0 : W0.heap.size = w.heap.size + 2 := by rw [hW0]; simp
  have HW0 := Lib.hid hW0
  have R0 : RC W0 w.heap.size W0.drew := ⟨(Below.refl _ _).drew, by show w.heap.size + 1 < W0.heap.size; omega, _, rfl, Y0⟩
  clear l0 l1 h0 h1 X0 Y0 hW0 hs0 hb0
  go_enter Try.func33, Try.ntmps33
  go_wp2_with (first | (with_reducible refine wpList_alloc_at rfl 52 rfl (ctlC zL zP).toArray infoCtx (w.heap.size + 1) (World.size_alloc _ _) ?_))
  rw [← HW0.out]
  refine wp_region_facts (by kernel_rfl) [[3], [4], [5], [6], [7], [8], [9], [10], [11], []] [[], [0], [0, 1], [0, 1, 2], [], [4], [4, 5], [4, 5, 6], [0, 1, 2, 3, 4, 5, 6, 7], [0, 1, 2, 3, 4, 5, 6, 7, 8]] [0, 1, 2] (by kernel_rfl) (RC W0 w.heap.size) (ctoF w.heap.size b0 o0 b1 o1 (.slice (some ⟨b0, o0, none⟩) 8 c0) (.slice (some ⟨b1, o1, none⟩) 8 c1) d0 d1) R0 ?_ ?_
  · refine ⟨?_, ?_, ?_, ?_, ?_, ?_, ?_, ?_, ?_, ?_, trivial⟩
    · intro T W hT hs hC hF K hK
      obtain ⟨t0, t1, t2, t3, t4, t5, t6, t7, t8, t9, t10, t11, rfl⟩ := arr12 T hT
      obtain rfl : t1 = .pointer (some ⟨w.heap.size, 0, none⟩) := hs 1 (by decide)
      obtain rfl : t2 = .pointer (some ⟨w.heap.size + 1, 0, none⟩) := hs 2 (by decide)
      clear hF hs hT
      go_simp
      exact hK.out _ W hC (fun _ _ _ h => h) rfl
    · intro T W hT hs hC hF K hK
      obtain ⟨t0, t1, t2, t3, t4, t5, t6, t7, t8, t9, t10, t11, rfl⟩ := arr12 T hT
      obtain rfl : t1 = .pointer (some ⟨w.heap.size, 0, none⟩) := hs 1 (by decide)
      obtain rfl : t2 = .pointer (some ⟨w.heap.size + 1, 0, none⟩) := hs 2 (by decide)
      have f0 := hF 0 (by decide)
      simp only [ctoF, mask] at f0
      clear hF hs hT
      subst f0
      have k := (HK.out W hC).1
      go_simp
      exact hK.out _ W hC (fun _ _ _ h => h) rfl
    · intro T W hT hs hC hF K hK
      obtain ⟨t0, t1, t2, t3, t4, t5, t6, t7, t8, t9, t10, t11, rfl⟩ := arr12 T hT
      obtain rfl : t1 = .pointer (some ⟨w.heap.size, 0, none⟩) := hs 1 (by decide)
      obtain rfl : t2 = .pointer (some ⟨w.heap.size + 1, 0, none⟩) := hs 2 (by decide)
      have f1 := hF 1 (by decide)
      simp only [ctoF, mask] at f1
      clear hF hs hT
      subst f1
      exact wp_toArray 49 (.tmp 4) rfl _ _ rfl (arrayI _ _ _) (hK.out _ W hC (fun _ _ _ h => h) rfl)
    · intro T W hT hs hC hF K hK
      obtain ⟨t0, t1, t2, t3, t4, t5, t6, t7, t8, t9, t10, t11, rfl⟩ := arr12 T hT
      obtain rfl : t1 = .pointer (some ⟨w.heap.size, 0, none⟩) := hs 1 (by decide)
      obtain rfl : t2 = .pointer (some ⟨w.heap.size + 1, 0, none⟩) := hs 2 (by decide)
      have f2 := hF 2 (by decide)
      simp only [ctoF, mask] at f2
      clear hF hs hT
      subst f2
      exact wp_load_mid 49 (.tmp 5) rfl b0 o0 rfl (cellsI d0) _ (HG.out W hC).1 Try.underlying49 rfl HZ.out.1 (hK.out _ W hC (fun _ _ _ h => h) rfl)
    · intro T W hT hs hC hF K hK
      obtain ⟨t0, t1, t2, t3, t4, t5, t6, t7, t8, t9, t10, t11, rfl⟩ := arr12 T hT
      obtain rfl : t1 = .pointer (some ⟨w.heap.size, 0, none⟩) := hs 1 (by decide)
      obtain rfl : t2 = .pointer (some ⟨w.heap.size + 1, 0, none⟩) := hs 2 (by decide)
      clear hF hs hT
      go_simp
      exact hK.out _ W hC (fun _ _ _ h => h) rfl
    · intro T W hT hs hC hF K hK
      obtain ⟨t0, t1, t2, t3, t4, t5, t6, t7, t8, t9, t10, t11, rfl⟩ := arr12 T hT
      obtain rfl : t1 = .pointer (some ⟨w.heap.size, 0, none⟩) := hs 1 (by decide)
      obtain rfl : t2 = .pointer (some ⟨w.heap.size + 1, 0, none⟩) := hs 2 (by decide)
      have f4 := hF 4 (by decide)
      simp only [ctoF, mask] at f4
      clear hF hs hT
      subst f4
      have k := (HK.out W hC).2
      go_simp
      exact hK.out _ W hC (fun _ _ _ h => h) rfl
    · intro T W hT hs hC hF K hK
      obtain ⟨t0, t1, t2, t3, t4, t5, t6, t7, t8, t9, t10, t11, rfl⟩ := arr12 T hT
      obtain rfl : t1 = .pointer (some ⟨w.heap.size, 0, none⟩) := hs 1 (by decide)
      obtain rfl : t2 = .pointer (some ⟨w.heap.size + 1, 0, none⟩) := hs 2 (by decide)
      have f5 := hF 5 (by decide)
      simp only [ctoF, mask] at f5
      clear hF hs hT
      subst f5
      exact wp_toArray 50 (.tmp 8) rfl _ _ rfl (arrayB _ _ _) (hK.out _ W hC (fun _ _ _ h => h) rfl)
    · intro T W hT hs hC hF K hK
      obtain ⟨t0, t1, t2, t3, t4, t5, t6, t7, t8, t9, t10, t11, rfl⟩ := arr12 T hT
      obtain rfl : t1 = .pointer (some ⟨w.heap.size, 0, none⟩) := hs 1 (by decide)
      obtain rfl : t2 = .pointer (some ⟨w.heap.size + 1, 0, none⟩) := hs 2 (by decide)
      have f6 := hF 6 (by decide)
      simp only [ctoF, mask] at f6
      clear hF hs hT
      subst f6
      exact wp_load_mid 50 (.tmp 9) rfl b1 o1 rfl (cellsB d1) _ (HG.out W hC).2 Try.underlying50 rfl HZ.out.2 (hK.out _ W hC (fun _ _ _ h => h) rfl)
    · intro T W hT hs hC hF K hK
      obtain ⟨t0, t1, t2, t3, t4, t5, t6, t7, t8, t9, t10, t11, rfl⟩ := arr12 T hT
      obtain rfl : t1 = .pointer (some ⟨w.heap.size, 0, none⟩) := hs 1 (by decide)
      obtain rfl : t2 = .pointer (some ⟨w.heap.size + 1, 0, none⟩) := hs 2 (by decide)
      have f3 := hF 3 (by decide)
      simp only [ctoF, mask] at f3
      have f7 := hF 7 (by decide)
      simp only [ctoF, mask] at f7
      clear hF hs hT
      subst f3 f7
      exact wp_build2 52 (.tmp 6) (.tmp 10) rfl _ _ _ rfl rfl (buildCtl d0 d1 HL.out.1 HL.out.2 W) (hK.out _ W hC (fun _ _ _ h => h) rfl)
    · intro T W hT hs hC hF K hK
      obtain ⟨t0, t1, t2, t3, t4, t5, t6, t7, t8, t9, t10, t11, rfl⟩ := arr12 T hT
      obtain rfl : t1 = .pointer (some ⟨w.heap.size, 0, none⟩) := hs 1 (by decide)
      obtain rfl : t2 = .pointer (some ⟨w.heap.size + 1, 0, none⟩) := hs 2 (by decide)
      have f8 := hF 8 (by decide)
      simp only [ctoF, mask] at f8
      clear hF hs hT
      subst f8
      obtain ⟨q1, q2, cs, hcs, Y⟩ := hC
      exact wp_store_mid 52 (.tmp 2) (.tmp 11) rfl (w.heap.size + 1) 0 (ctlC d0 d1).toArray rfl rfl (by rw [HS.out.1, ← hcs]; exact box_there Y) HS.out.2 (all_oneCell_toArray (ctlC_one d0 d1)) (hK.out undef _ ⟨below_setCellsN (Nat.le_refl _) _ _ _ q1, by rw [setCells_size]; exact q2, _, HS.out.1, box_put Y _ (by have := HS.out.1; rw [List.size_toArray] at this; rw [this, hcs])⟩ (fun j t hj h => ctoF_any j t hj h) (box_put Y _ (by have := HS.out.1; rw [List.size_toArray] at this; rw [this, hcs])))
  · intro T W hT hs hC hF
    obtain ⟨t0, t1, t2, t3, t4, t5, t6, t7, t8, t9, t10, t11, rfl⟩ := arr12 T hT
    obtain rfl : t1 = .pointer (some ⟨w.heap.size, 0, none⟩) := hs 1 (by decide)
    obtain rfl : t2 = .pointer (some ⟨w.heap.size + 1, 0, none⟩) := hs 2 (by decide)
    have Y : Box W (w.heap.size + 1) 52 (ctlC d0 d1).toArray := hF 9 (by decide)
    have HBw := Lib.hid (HB.out _ hC)
    have HLd := Lib.hid (run_loadVar_mid (P := Try.prog) W (w.heap.size + 1) 0 52 (ctlC d0 d1) _ (box_range Y) Try.underlying52 rfl (by have := HS.out.2; rwa [List.size_toArray] at this))
    clear hF hs hT hC R0 Y
    go_wp2
    exact bodyPost_ret (v := .agg (ctlC d0 d1).toArray) (results_cellC Try.results33 (by rfl) HLd.out) rfl ⟨rfl, HBw.out⟩
theorem arr10 (T : Array Value) (h : T.size = 10) : ∃ t0 t1 t2 t3 t4 t5 t6 t7 t8 t9 : Value, T = #[t0, t1, t2, t3, t4, t5, t6, t7, t8, t9] := by
  obtain ⟨l⟩ := T
  match l, h with
  | [t0, t1, t2, t3, t4, t5, t6, t7, t8, t9], _ => exact ⟨t0, t1, t2, t3, t4, t5, t6, t7, t8, t9, rfl⟩

/-- A controller of the call's own, eight lines. -/
def GivesIrq (ls : List Int) (ps : List Bool) (w : World) (e : Ending) (w' : World) : Prop :=
  ∃ A0 A1 c0 c1, e = .returned (.agg #[.slice A0 8 c0, .slice A1 8 c1]) ∧ Hid (OwnA w' w.heap.size w'.heap.size [.slice A0 8 c0, .slice A1 8 c1] [.I ls, .B ps]) ∧ Below w.heap.size w w'
def YV2 (b : Nat) (W : World) (j : Nat) : Value := (W.cell? ⟨b, j, none⟩).getD undef
theorem YV2.of {b : Nat} {W : World} {t : TypeId} {cs : Array Value} (h : Box W b t cs) (hs : cs.size = 2) (j : Nat) (hj : j < 2) : W.cell? ⟨b, j, none⟩ = some (YV2 b W j) := by
  have := h.cell j (Array.getElem?_eq_getElem (by omega : j < cs.size))
  unfold YV2; rw [this]; rfl
theorem Box.all2 {w : World} {b : Nat} {t : TypeId} {cs : Array Value} (X : Box w b t cs) (hs : cs.size = 2) (u0 u1 : Value) :
    Box ((w.setCell ⟨b, 0, none⟩ u0).setCell ⟨b, 1, none⟩ u1) b t #[u0, u1] := by
  have := (X.set 0 u0).set 1 u1
  rw [show (cs.setIfInBounds 0 u0).setIfInBounds 1 u1 = #[u0, u1] from by
    match cs, hs with
    | ⟨[a, b]⟩, _ => rfl] at this
  exact this
theorem below2 {w0 w : World} {b : Nat} (h : Below w0.heap.size w0 w) (hb : w0.heap.size ≤ b) (u0 u1 : Value) : Below w0.heap.size w0 ((w.setCell ⟨b, 0, none⟩ u0).setCell ⟨b, 1, none⟩ u1) :=
  (h.setCell (p := ⟨b, 0, none⟩) hb u0).setCell (p := ⟨b, 1, none⟩) hb u1
theorem size2 (w : World) (b : Nat) (u0 u1 : Value) : ((w.setCell ⟨b, 0, none⟩ u0).setCell ⟨b, 1, none⟩ u1).heap.size = w.heap.size := by simp [World.setCell]
theorem OwnA.far2 {w : World} {lo hi : Nat} {B0 B1 : Option Addr} {m0 m1 e0 e1 : Nat} {r0 : List Int} {r1 : List Bool} (h : OwnA w lo hi [.slice B0 m0 e0, .slice B1 m1 e1] [.I r0, .B r1]) {b : Nat} {cs : Array Value} (X : Box w b 26 cs) (u0 u1 : Value) : OwnA ((w.setCell ⟨b, 0, none⟩ u0).setCell ⟨b, 1, none⟩ u1) lo hi [.slice B0 m0 e0, .slice B1 m1 e1] [.I r0, .B r1] := by
  obtain ⟨⟨⟨a0, b0, q0, o0⟩, ⟨a1, b1, q1, o1⟩, -⟩, hn⟩ := h
  exact ⟨⟨⟨a0, b0, q0, (o0.farB X (by decide) 0 u0).farB (X.set 0 u0) (by decide) 1 u1⟩, ⟨a1, b1, q1, (o1.far X (by decide) 0 u0).far (X.set 0 u0) (by decide) 1 u1⟩, trivial⟩, hn⟩
def RQ (W0 : World) (m : Nat) (W : World) : Prop := Below (m + 1) W0 W ∧ m + 1 ≤ W.heap.size ∧ ∃ cs : Array Value, cs.size = 2 ∧ Box W (m + 1) 26 cs
theorem RQ.step {W0 W W' : World} {m : Nat} (h : RQ W0 m W) (k : Below W.heap.size W W') : RQ W0 m W' := by
  obtain ⟨a, q, cs, hs, b⟩ := h
  exact ⟨a.trans (k.mono q), Nat.le_trans q k.size, cs, hs, b.step k⟩
theorem RQ.alloc {W0 W : World} {m : Nat} (h : RQ W0 m W) (o : Obj) : RQ W0 m (W.alloc o) := h.step (alloc_below _ _)
theorem RQ.set {W0 W : World} {m : Nat} (h : RQ W0 m W) (j : Nat) (v : Value) : RQ W0 m (W.setCell ⟨m + 1, j, none⟩ v) := by
  obtain ⟨a, q, cs, hs, b⟩ := h
  exact ⟨a.setCell (p := ⟨m + 1, j, none⟩) (Nat.le_refl _) v, by simpa [World.setCell] using q, _, by simpa using hs, b.set j v⟩
def irqF (M : Nat) (d0 : List Int) (d1 : List Bool) : Nat → (Nat → Value) → World → Prop
  | 0, t, _ => t 3 = .pointer (some ⟨M, 0, none⟩)
  | 1, t, _ => t 4 = .slice (some ⟨M, 0, none⟩) 8 8
  | 2, t, w => ∃ A c, t 5 = .slice A 8 c ∧ OwnI w M w.heap.size A d0
  | 3, t, _ => t 6 = .pointer (some ⟨M, 8, none⟩)
  | 4, t, _ => t 7 = .slice (some ⟨M, 8, none⟩) 8 8
  | 5, t, w => ∃ A c A' c', t 5 = .slice A 8 c ∧ t 8 = .slice A' 8 c' ∧ OwnI w M w.heap.size A d0 ∧ OwnB w M w.heap.size A' d1
  | 6, t, _ => ∃ A c A' c', t 5 = .slice A 8 c ∧ t 8 = .slice A' 8 c' ∧ t 9 = .agg #[.slice A 8 c, .slice A' 8 c']
  | 7, t, w => ∃ A c A' c', t 5 = .slice A 8 c ∧ t 8 = .slice A' 8 c' ∧ Box w (M + 1) 26 #[.slice A 8 c, .slice A' 8 c']
  | _, _, _ => True
section
variable {M : Nat} {d0 : List Int} {d1 : List Bool} {w w' : World}
theorem irqF_below (k : Below w.heap.size w w') : ∀ (j : Nat) (t : Nat → Value), irqF M d0 d1 j t w → irqF M d0 d1 j t w'
  | 0, _, h | 1, _, h | 3, _, h | 4, _, h | 6, _, h => h
  | 2, _, ⟨A, c, e, h⟩ => ⟨A, c, e, (h.below k).wideB (Nat.le_refl _) k.size⟩
  | 5, _, ⟨A, c, A', c', e, e2, h, h2⟩ => ⟨A, c, A', c', e, e2, (h.below k).wideB (Nat.le_refl _) k.size, (h2.below k).wide (Nat.le_refl _) k.size⟩
  | 7, _, ⟨A, c, A', c', e, e2, h⟩ => ⟨A, c, A', c', e, e2, h.step k⟩
  | _ + 8, _, _ => trivial
theorem irqF_store {ys : Array Value} (Y : Box w (M + 1) 26 ys) (i : Nat) (u : Value) : ∀ (j : Nat) (t : Nat → Value), j ≠ 7 → irqF M d0 d1 j t w → irqF M d0 d1 j t (w.setCell ⟨M + 1, i, none⟩ u)
  | 0, _, _, h | 1, _, _, h | 3, _, _, h | 4, _, _, h | 6, _, _, h => h
  | 2, _, _, ⟨A, c, e, h⟩ => ⟨A, c, e, (h.farB Y (by decide) i u).wideB (Nat.le_refl _) (by simp [World.setCell])⟩
  | 5, _, _, ⟨A, c, A', c', e, e2, h, h2⟩ => ⟨A, c, A', c', e, e2, (h.farB Y (by decide) i u).wideB (Nat.le_refl _) (by simp [World.setCell]), (h2.far Y (by decide) i u).wide (Nat.le_refl _) (by simp [World.setCell])⟩
  | 7, _, n, _ => (n rfl).elim
  | _ + 8, _, _, _ => trivial
end

set_option maxRecDepth 100000 in
set_option maxHeartbeats 4000000 in
theorem controllerIrq (d0 : List Int) (d1 : List Bool) (w : World) (l0 : d0.length = 8) (l1 : d1.length = 8) :
    Calls Try.prog 39 #[.agg (ctlC d0 d1).toArray] w (GivesIrq d0 d1 w) := by
  obtain ⟨W0, hW0⟩ : ∃ W0, W0 = ((w.alloc (.cells (ctlC d0 d1).toArray 52)).alloc (.cells #[.slice none 0 0, .slice none 0 0] 26)) := ⟨_, rfl⟩
  have hb0 : Below w.heap.size w W0 := by rw [hW0]; exact bt (alloc_below _ _) (alloc_below _ _)
  have X0 : Box W0 w.heap.size 52 (ctlC d0 d1).toArray := by rw [hW0]; exact (Box.new _ _ _).alloc _
  have Y0 : Box W0 (w.heap.size + 1) 26 #[.slice none 0 0, .slice none 0 0] := by rw [hW0]; simpa using Box.new (w.alloc (.cells (ctlC d0 d1).toArray 52)) 26 #[.slice none 0 0, .slice none 0 0]
  have HB : Hid (∀ W, RQ W0 w.heap.size W → Below w.heap.size w W) := Lib.hid (fun W r => hb0.trans (r.1.mono (by omega)))
  have HC1 := Lib.hid (fun W (r : RQ W0 w.heap.size W) => cloneI (some ⟨w.heap.size, 0, none⟩) 8 8 d0 W l0 (by omega) (by omega) (box_levels (X0.below r.1 (by omega))))
  have HC2 := Lib.hid (fun W (r : RQ W0 w.heap.size W) => cloneB (some ⟨w.heap.size, 8, none⟩) 8 8 d1 W l1 (by omega) (by omega) (box_pends (X0.below r.1 (by omega)) l0))
  have HL := Lib.hid (And.intro l0 l1)
  have hs0 : W0.heap.size = w.heap.size + 2 := by rw [hW0]; simp
  have HW0 := Lib.hid hW0
  have R0 : RQ W0 w.heap.size W0.drew := ⟨(Below.refl _ _).drew, by show w.heap.size + 1 ≤ W0.heap.size; omega, _, rfl, Y0⟩
  generalize ctlC d0 d1 = cs at HW0
  clear l0 l1 X0 Y0 hW0 hs0 hb0
  go_enter Try.func39, Try.ntmps39
  go_wp2
  rw [← HW0.out]
  refine wp_region_facts (by kernel_rfl) [[3], [4], [5], [6], [7], [5, 8], [5, 8, 9], [5, 8]] [[], [0], [0, 1], [], [3], [3, 4, 2, 0, 1], [3, 4, 2, 0, 1, 5], [0, 1, 2, 3, 4, 5, 6]] [0, 1, 2] (by kernel_rfl) (RQ W0 w.heap.size) (irqF w.heap.size d0 d1) R0 ?_ ?_
  · refine ⟨?_, ?_, ?_, ?_, ?_, ?_, ?_, ?_, trivial⟩
    · intro T W hT hs hC hF K hK
      obtain ⟨t0, t1, t2, t3, t4, t5, t6, t7, t8, t9, rfl⟩ := arr10 T hT
      obtain rfl : t1 = .pointer (some ⟨w.heap.size, 0, none⟩) := hs 1 (by decide)
      obtain rfl : t2 = .pointer (some ⟨w.heap.size + 1, 0, none⟩) := hs 2 (by decide)
      clear hF hs hT
      go_simp
      exact hK.out _ W hC (fun _ _ _ h => h) rfl
    · intro T W hT hs hC hF K hK
      obtain ⟨t0, t1, t2, t3, t4, t5, t6, t7, t8, t9, rfl⟩ := arr10 T hT
      obtain rfl : t1 = .pointer (some ⟨w.heap.size, 0, none⟩) := hs 1 (by decide)
      obtain rfl : t2 = .pointer (some ⟨w.heap.size + 1, 0, none⟩) := hs 2 (by decide)
      have f0 := hF 0 (by decide)
      simp only [irqF, mask] at f0
      clear hF hs hT
      subst f0
      go_simp
      exact hK.out _ W hC (fun _ _ _ h => h) rfl
    · intro T W hT hs hC hF K hK
      obtain ⟨t0, t1, t2, t3, t4, t5, t6, t7, t8, t9, rfl⟩ := arr10 T hT
      obtain rfl : t1 = .pointer (some ⟨w.heap.size, 0, none⟩) := hs 1 (by decide)
      obtain rfl : t2 = .pointer (some ⟨w.heap.size + 1, 0, none⟩) := hs 2 (by decide)
      have f1 := hF 1 (by decide)
      simp only [irqF, mask] at f1
      clear hF hs hT
      subst f1
      go_simp
      refine (HC1.out W hC).mono ?_
      rintro e w1 ⟨A, c, rfl, O, k⟩
      exact hK.out _ w1 (hC.step k) (fun j t _ h => irqF_below k j t h) ⟨A, c, rfl, O.out.wideB (HB.out _ hC).size (Nat.le_refl _)⟩
    · intro T W hT hs hC hF K hK
      obtain ⟨t0, t1, t2, t3, t4, t5, t6, t7, t8, t9, rfl⟩ := arr10 T hT
      obtain rfl : t1 = .pointer (some ⟨w.heap.size, 0, none⟩) := hs 1 (by decide)
      obtain rfl : t2 = .pointer (some ⟨w.heap.size + 1, 0, none⟩) := hs 2 (by decide)
      clear hF hs hT
      go_simp
      exact hK.out _ W hC (fun _ _ _ h => h) rfl
    · intro T W hT hs hC hF K hK
      obtain ⟨t0, t1, t2, t3, t4, t5, t6, t7, t8, t9, rfl⟩ := arr10 T hT
      obtain rfl : t1 = .pointer (some ⟨w.heap.size, 0, none⟩) := hs 1 (by decide)
      obtain rfl : t2 = .pointer (some ⟨w.heap.size + 1, 0, none⟩) := hs 2 (by decide)
      have f3 := hF 3 (by decide)
      simp only [irqF, mask] at f3
      clear hF hs hT
      subst f3
      go_simp
      exact hK.out _ W hC (fun _ _ _ h => h) rfl
    · intro T W hT hs hC hF K hK
      obtain ⟨t0, t1, t2, t3, t4, t5, t6, t7, t8, t9, rfl⟩ := arr10 T hT
      obtain rfl : t1 = .pointer (some ⟨w.heap.size, 0, none⟩) := hs 1 (by decide)
      obtain rfl : t2 = .pointer (some ⟨w.heap.size + 1, 0, none⟩) := hs 2 (by decide)
      have f4 := hF 4 (by decide)
      simp only [irqF, mask] at f4
      have f2 := hF 2 (by decide)
      simp only [irqF, mask] at f2
      clear hF hs hT
      obtain ⟨A, c, e5, O5⟩ := f2
      subst e5 f4
      have H5 := Lib.hid O5
      clear O5
      go_simp
      refine (HC2.out W hC).mono ?_
      rintro e w1 ⟨A', c', rfl, O, k⟩
      exact hK.out _ w1 (hC.step k) (fun j t _ h => irqF_below k j t h) ⟨A, c, A', c', rfl, rfl, (H5.out.below k).wideB (Nat.le_refl _) k.size, O.out.wide (HB.out _ hC).size (Nat.le_refl _)⟩
    · intro T W hT hs hC hF K hK
      obtain ⟨t0, t1, t2, t3, t4, t5, t6, t7, t8, t9, rfl⟩ := arr10 T hT
      obtain rfl : t1 = .pointer (some ⟨w.heap.size, 0, none⟩) := hs 1 (by decide)
      obtain rfl : t2 = .pointer (some ⟨w.heap.size + 1, 0, none⟩) := hs 2 (by decide)
      have f5 := hF 5 (by decide)
      simp only [irqF, mask] at f5
      clear hF hs hT
      obtain ⟨A, c, A', c', e5, e8, O5, O8⟩ := f5
      subst e5 e8
      clear O5 O8
      go_simp
      exact hK.out _ W hC (fun _ _ _ h => h) ⟨A, c, A', c', rfl, rfl, rfl⟩
    · intro T W hT hs hC hF K hK
      obtain ⟨t0, t1, t2, t3, t4, t5, t6, t7, t8, t9, rfl⟩ := arr10 T hT
      obtain rfl : t1 = .pointer (some ⟨w.heap.size, 0, none⟩) := hs 1 (by decide)
      obtain rfl : t2 = .pointer (some ⟨w.heap.size + 1, 0, none⟩) := hs 2 (by decide)
      have f6 := hF 6 (by decide)
      simp only [irqF, mask] at f6
      clear hF hs hT
      obtain ⟨A, c, A', c', e5, e8, e9⟩ := f6
      subst e5 e8 e9
      obtain ⟨hCa, hCb, ys, hys, Y⟩ := hC
      have y0 := YV2.of Y hys 0 (by omega)
      have y1 := YV2.of Y hys 1 (by omega)
      have z0 := Y.frozen 0
      have z1 := Y.frozen 1
      have HYs := Lib.hid (And.intro hys Y)
      have hC : RQ W0 w.heap.size W := ⟨hCa, hCb, ys, hys, Y⟩
      clear hys Y hCa hCb
      go_simp
      exact hK.out undef _ ((hC.set 0 _).set 1 _) (fun j t n h => irqF_store (HYs.out.2.set 0 _) 1 _ j t n (irqF_store HYs.out.2 0 _ j t n h)) ⟨A, c, A', c', rfl, rfl, HYs.out.2.all2 HYs.out.1 _ _⟩
  · intro T W hT hs hC hF
    obtain ⟨t0, t1, t2, t3, t4, t5, t6, t7, t8, t9, rfl⟩ := arr10 T hT
    obtain rfl : t1 = .pointer (some ⟨w.heap.size, 0, none⟩) := hs 1 (by decide)
    obtain rfl : t2 = .pointer (some ⟨w.heap.size + 1, 0, none⟩) := hs 2 (by decide)
    obtain ⟨A, c, A', c', e5, e8, O5, O8⟩ := hF 5 (by decide)
    obtain ⟨x1, x2, x3, x4, f5, f8, Y⟩ := hF 7 (by decide)
    have E1 : Value.slice A 8 c = .slice x1 8 x2 := (show t5 = _ from e5).symm.trans f5
    have E2 : Value.slice A' 8 c' = .slice x3 8 x4 := (show t8 = _ from e8).symm.trans f8
    simp only [Value.slice.injEq, true_and] at E1 E2
    obtain ⟨r1, r2⟩ := E1
    obtain ⟨r3, r4⟩ := E2
    subst r1 r2 r3 r4
    have y0 := Y.cell 0 rfl
    have y1 := Y.cell 1 rfl
    have HR : Hid (OwnA W w.heap.size W.heap.size [.slice A 8 c, .slice A' 8 c'] [.I d0, .B d1]) := Lib.hid (by
      have := ownIB (c := c) (d := c') O5 O8
      rwa [HL.out.1, HL.out.2] at this)
    have HBw := Lib.hid (HB.out _ hC)
    clear e5 e8 f5 f8 O5 O8 Y hF hs hT hC R0
    go_wp2
    refine bodyPost_ret (v := .agg #[.slice A 8 c, .slice A' 8 c']) (by simp [results, Try.results39, go_sem, y0, y1]) rfl ?_
    exact ⟨A, A', c, c', rfl, HR, HBw.out⟩
end Go.Proofs.Ytamfapmkdojhcaa
