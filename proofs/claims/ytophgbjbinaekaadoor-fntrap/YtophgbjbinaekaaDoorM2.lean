/- Texts of this claim, one behind the other: Chip, ChipOps, ChipOf, FlashSpec2, FlashOps, BusRead, GenA, GenB. -/
import Derived.Deep.MidRow
import Derived.Laws.CopyOwn
import Derived.Deep.RegionHeld3
import Derived.Test.YtophgbjbinaekaaDoorM1
/- A chip's value: 256 bytes, 16 booleans, a state, one cell each; contracts of chip.protect, chip.program, chip.erase. -/
namespace Go.Proofs.YtophgbjbinaekaaDoor
open Go.RowKit

def chipC (zs : List Int) (gs : List Bool) (st : Int) : List Value := zs.map (fun z => Value.int .u8 z) ++ (gs.map Value.bool ++ [Value.int .i64 st])
theorem chipC_len (zs : List Int) (gs : List Bool) (st : Int) : (chipC zs gs st).length = zs.length + (gs.length + 1) := by simp [chipC]
theorem chipC_cell {zs : List Int} {gs : List Bool} {st : Int} (k : Nat) (hk : k < zs.length) : (chipC zs gs st)[k]? = some (.int .u8 (zs.getD k 0)) := by
  unfold chipC
  rw [List.getElem?_append_left (by simpa using hk), List.getElem?_map, List.getD_eq_getElem?_getD, List.getElem?_eq_getElem hk]
  rfl
theorem chipC_guard {zs : List Int} {gs : List Bool} {st : Int} (hz : zs.length = 256) (k : Nat) (hk : k < gs.length) : (chipC zs gs st)[256 + k]? = some (.bool (gs.getD k false)) := by
  unfold chipC
  rw [List.getElem?_append_right (by simp [hz]), List.length_map, hz, Nat.add_sub_cancel_left, List.getElem?_append_left (by simpa using hk), List.getElem?_map, List.getD_eq_getElem?_getD, List.getElem?_eq_getElem hk]
  rfl
theorem chipC_state {zs : List Int} {gs : List Bool} {st : Int} (hz : zs.length = 256) (hg : gs.length = 16) : (chipC zs gs st)[272]? = some (.int .i64 st) := by
  unfold chipC
  rw [List.getElem?_append_right (by simp [hz]), List.length_map, hz, List.getElem?_append_right (by simp [hg]), List.length_map, hg]
  rfl
theorem chipC_setCell {zs : List Int} {gs : List Bool} {st : Int} (k : Nat) (x : Int) (hk : k < zs.length) : (chipC zs gs st).set k (.int .u8 x) = chipC (zs.set k x) gs st := by
  unfold chipC
  rw [List.set_append_left _ _ (by simpa using hk), List.map_set]
theorem chipC_setGuard {zs : List Int} {gs : List Bool} {st : Int} (hz : zs.length = 256) (k : Nat) (x : Bool) (hk : k < gs.length) : (chipC zs gs st).set (256 + k) (.bool x) = chipC zs (gs.set k x) st := by
  unfold chipC
  rw [List.set_append_right _ _ (by simp [hz]), List.length_map, hz, Nat.add_sub_cancel_left, List.set_append_left _ _ (by simpa using hk), List.map_set]
theorem chipC_setState {zs : List Int} {gs : List Bool} {st : Int} (hz : zs.length = 256) (hg : gs.length = 16) (x : Int) : (chipC zs gs st).set 272 (.int .i64 x) = chipC zs gs x := by
  unfold chipC
  rw [List.set_append_right _ _ (by simp [hz]), List.length_map, hz, List.set_append_right _ _ (by simp [hg]), List.length_map, hg]
  rfl
theorem chipC_one (zs : List Int) (gs : List Bool) (st : Int) : ∀ v ∈ chipC zs gs st, v.oneCell' = true := by
  intro v hv
  unfold chipC at hv
  simp only [List.mem_append, List.mem_map, List.mem_singleton] at hv
  rcases hv with ⟨z, _, rfl⟩ | ⟨z, _, rfl⟩ | rfl <;> rfl

def BC (w : World) (b : Nat) (zs : List Int) (gs : List Bool) (st : Int) : Prop := Box w b 65 (chipC zs gs st).toArray
section
variable {w w' : World} {b : Nat} {zs : List Int} {gs : List Bool} {st : Int}
theorem BC.range (h : BC w b zs gs st) : w.rangeAt b 0 (chipC zs gs st) := fun j v hv => by
  rw [Nat.zero_add]; exact Box.cell h j (by simpa using hv)
theorem BC.there (h : BC w b zs gs st) : w.there b 0 (chipC zs gs st).length := fun j hj => by
  rw [Nat.zero_add]
  exact ⟨by rw [Box.cell h j (by rw [List.getElem?_toArray, List.getElem?_eq_getElem hj])]; rfl, Box.frozen h j⟩
theorem BC.cell (h : BC w b zs gs st) (k : Nat) (hk : k < zs.length) : w.cell? ⟨b, k, none⟩ = some (.int .u8 (zs.getD k 0)) := Box.cell h k (by simpa using chipC_cell k hk)
theorem BC.guard (h : BC w b zs gs st) (hz : zs.length = 256) (k : Nat) (hk : k < gs.length) : w.cell? ⟨b, 256 + k, none⟩ = some (.bool (gs.getD k false)) := Box.cell h (256 + k) (by simpa using chipC_guard hz k hk)
theorem BC.state (h : BC w b zs gs st) (hz : zs.length = 256) (hg : gs.length = 16) : w.cell? ⟨b, 272, none⟩ = some (.int .i64 st) := Box.cell h 272 (by simpa using chipC_state hz hg)
theorem BC.frozen (h : BC w b zs gs st) (k : Nat) : w.frozen? ⟨b, k, none⟩ = false := Box.frozen h k
theorem BC.step (h : BC w b zs gs st) (hb : Below w.heap.size w w') : BC w' b zs gs st := Box.step h hb
theorem BC.setC (h : BC w b zs gs st) (k : Nat) (x : Int) (hk : k < zs.length) : BC (w.setCell ⟨b, k, none⟩ (.int .u8 x)) b (zs.set k x) gs st := by
  have := Box.set h k (.int .u8 x)
  rw [List.setIfInBounds_toArray, chipC_setCell k x hk] at this
  exact this
theorem BC.setS (h : BC w b zs gs st) (hz : zs.length = 256) (hg : gs.length = 16) (x : Int) : BC (w.setCell ⟨b, 272, none⟩ (.int .i64 x)) b zs gs x := by
  have := Box.set h 272 (.int .i64 x)
  rw [List.setIfInBounds_toArray, chipC_setState hz hg x] at this
  exact this
theorem BC.far (h : BC w b zs gs st) {p : Addr} (hp : b ≠ p.block) (u : Value) : BC (w.setCell p u) b zs gs st := Box.far h hp u
theorem BC.alloc (h : BC w b zs gs st) (o : Obj) : BC (w.alloc o) b zs gs st := Box.alloc h o
theorem BC.new (w : World) (zs : List Int) (gs : List Bool) (st : Int) : BC (w.alloc (.cells (chipC zs gs st).toArray 65)) w.heap.size zs gs st := Box.new _ _ _
end
theorem setCells_far {w : World} {b b' : Nat} {t : TypeId} {cs : Array Value} (h : Box w b t cs) (hb : b ≠ b') : ∀ (o : Nat) (vs : List Value), Box (w.setCells b' o vs) b t cs := by
  intro o vs
  induction vs generalizing w o with
  | nil => exact h
  | cons v vs ih => exact ih (h.far (p := ⟨b', o, none⟩) hb v) (o + 1)
theorem setCells_list {w : World} {b : Nat} {t : TypeId} : ∀ (vs pre : List Value) (l : List Value), Box w b t (pre ++ l).toArray → l.length = vs.length → Box (w.setCells b pre.length vs) b t (pre ++ vs).toArray := by
  intro vs
  induction vs generalizing w with
  | nil => intro pre l h hl; rw [List.length_eq_zero_iff.1 hl] at h; exact h
  | cons v vs ih =>
    intro pre l h hl
    match l, hl with
    | x :: l, hl =>
      have h2 := h.set pre.length v
      rw [List.setIfInBounds_toArray, show (pre ++ x :: l).set pre.length v = (pre ++ [v]) ++ l from by rw [List.set_append_right _ _ (Nat.le_refl _), Nat.sub_self]; simp] at h2
      have := ih (w := w.setCell ⟨b, pre.length, none⟩ v) (pre ++ [v]) l h2 (by simpa using hl)
      rw [show (pre ++ [v]).length = pre.length + 1 from by simp, show pre ++ [v] ++ vs = pre ++ v :: vs from by simp] at this
      exact this
theorem BC.put {w : World} {b : Nat} {zs zs' : List Int} {gs gs' : List Bool} {st st' : Int} (h : BC w b zs gs st) (h1 : zs'.length = zs.length) (h2 : gs'.length = gs.length) : BC (w.setCells b 0 (chipC zs' gs' st')) b zs' gs' st' := by
  have := setCells_list (chipC zs' gs' st') [] (chipC zs gs st) h (by rw [chipC_len, chipC_len, h1, h2])
  exact this
theorem BC.far' {w : World} {b b' : Nat} {zs : List Int} {gs : List Bool} {st : Int} (h : BC w b zs gs st) (hb : b ≠ b') (o : Nat) (vs : List Value) : BC (w.setCells b' o vs) b zs gs st := setCells_far h hb o vs
theorem below_setCellsC {w0 w : World} {b : Nat} (h : Below w0.heap.size w0 w) (hb : w0.heap.size ≤ b) : ∀ (o : Nat) (cs : List Value), Below w0.heap.size w0 (w.setCells b o cs) := by
  intro o cs
  induction cs generalizing w o with
  | nil => exact h
  | cons v vs ih => exact ih (h.setCell (p := ⟨b, o, none⟩) hb v) (o + 1)
theorem results_cellC {P : Program} {fn : Func} {tmps : Array Value} {w : World} {a : Nat} {t : TypeId} {p : Addr} {v : Value} (h : fn.results = #[.cell a t]) (hp : tmps.getD a undef = .pointer (some p)) (hv : (loadVar t p).run P w = .ok v w) : (results fn tmps).run P w = .ok v w := by
  unfold results
  rw [h]
  simp only [List.mapM_toArray, List.mapM_cons, List.mapM_nil, hp]
  simp [asAddr, hv]

def zZ : List Int := List.replicate 256 0
def zG : List Bool := List.replicate 16 false
theorem zZ_len : zZ.length = 256 := List.length_replicate
theorem zG_len : zG.length = 16 := List.length_replicate
def zC : List Value := chipC zZ zG 0
theorem chipC_273 {zs : List Int} {gs : List Bool} (hz : zs.length = 256) (hg : gs.length = 16) (st : Int) : (chipC zs gs st).length = 273 := by rw [chipC_len, hz, hg]
theorem BC.there273 {w : World} {b : Nat} {zs : List Int} {gs : List Bool} {st : Int} (h : BC w b zs gs st) (hz : zs.length = 256) (hg : gs.length = 16) : w.there b 0 273 := by
  have := h.there
  rwa [chipC_273 hz hg] at this
theorem BC.newZ (w : World) : BC (w.alloc (.cells zC.toArray 65)) w.heap.size zZ zG 0 := Box.new _ _ _
set_option maxRecDepth 100000 in
theorem infoC : (Tryd.prog.info? 65).map (fun i => (i.zero, i.size)) = some (some (.agg zC.toArray), 273) := by kernel_rfl
set_option maxRecDepth 100000 in
theorem infoCx : ∃ i : TypeInfo, Tryd.prog.info? 65 = some i ∧ i.zero = some (.agg zC.toArray) := by
  obtain ⟨i, hi, hzz⟩ := Option.map_eq_some_iff.1 infoC
  simp only [Prod.mk.injEq] at hzz
  exact ⟨i, hi, hzz.1⟩
set_option maxRecDepth 100000 in
theorem sizeC (zs : List Int) (gs : List Bool) (st : Int) (hz : zs.length = 256) (hg : gs.length = 16) : (Tryd.prog.info? 65).map (·.size) = some (chipC zs gs st).length := by
  obtain ⟨i, hi, hzz⟩ := Option.map_eq_some_iff.1 infoC
  simp only [Prod.mk.injEq] at hzz
  rw [hi, chipC_len, hz, hg, Option.map_some, hzz.2]
theorem wpList_alloc_big {P : Program} {ops : Array Oper} {rest : List Oper} {op : Oper} {a : Act} {w : World} {Q : Exit → Act → World → Prop} (hgd : op.guard = none) (t : TypeId) (ho : op.op = .alloc t) (C : Array Value)
    (hz : ∃ i : TypeInfo, P.info? t = some i ∧ i.zero = some (.agg C)) (h : wpList P ops Q rest (a.put op.dst (.pointer (some ⟨w.heap.size, 0, none⟩))) (w.alloc (.cells C t))) : wpList P ops Q (op :: rest) a w :=
  wpList_plain hgd fun _ hK => by
    obtain ⟨i, hi, hz⟩ := hz
    have hr : (Instr.alloc t true (.tuple #[])).run P w = .ok (.pointer (some ⟨w.heap.size, 0, none⟩)) (w.alloc (.cells C t)) := by
      simp [Instr.alloc, zeroValue, typeInfo, hi, hz, newVar, newRow, newObj, Value.cells]
      rfl
    unfold Oper.wp execOp
    simp only [ho, Sem.run_bind, Sem.run_pure, Result.andThen_ok, hr]
    exact hK _ _ h
theorem wpList_alloc_at {P : Program} {ops : Array Oper} {rest : List Oper} {op : Oper} {a : Act} {w : World} {Q : Exit → Act → World → Prop} (hgd : op.guard = none) (t : TypeId) (ho : op.op = .alloc t) (C : Array Value)
    (hz : ∃ i : TypeInfo, P.info? t = some i ∧ i.zero = some (.agg C)) (b : Nat) (hb : w.heap.size = b) (h : wpList P ops Q rest (a.put op.dst (.pointer (some ⟨b, 0, none⟩))) (w.alloc (.cells C t))) : wpList P ops Q (op :: rest) a w :=
  wpList_alloc_big hgd t ho C hz (by rw [hb]; exact h)
end Go.Proofs.YtophgbjbinaekaaDoor

/- Contracts of chip.protect, chip.program, chip.erase. -/
namespace Go.Proofs.YtophgbjbinaekaaDoor
open Go.RowKit

def GivesChip (zs : List Int) (gs : List Bool) (st : Int) (w : World) (e : Ending) (w' : World) : Prop := e = .returned (.agg (chipC zs gs st).toArray) ∧ Below w.heap.size w w'

structure Hands (W : World) (b b' : Nat) (cs : List Value) : Prop where
  range : W.rangeAt b 0 cs
  room : W.there b' 0 cs.toArray.size
  one : cs.toArray.all (·.oneCell') = true
  size : (Tryd.prog.info? 65).map (·.size) = some cs.length
  size' : (Tryd.prog.info? 65).map (·.size) = some cs.toArray.size
  back : (loadVar 65 ⟨b', 0, none⟩).run Tryd.prog (W.setCells b' 0 cs) = .ok (.agg cs.toArray) (W.setCells b' 0 cs)
set_option maxRecDepth 100000 in
theorem BC.hands {W : World} {b b' : Nat} {zs zs' : List Int} {gs gs' : List Bool} {st st' : Int} (h : BC W b zs gs st) (h' : BC W b' zs' gs' st') (hz : zs.length = 256) (hg : gs.length = 16) (hz' : zs'.length = 256) (hg' : gs'.length = 16) : Hands W b b' (chipC zs gs st) :=
  ⟨h.range, by rw [List.size_toArray, chipC_273 hz hg]; exact h'.there273 hz' hg', all_oneCell_toArray (chipC_one zs gs st), sizeC zs gs st hz hg, by rw [List.size_toArray]; exact sizeC zs gs st hz hg,
    run_loadVar_mid (P := Tryd.prog) _ b' 0 65 _ _ (h'.put (zs' := zs) (gs' := gs) (st' := st) (hz.trans hz'.symm) (hg.trans hg'.symm)).range Tryd.underlying65 rfl (sizeC zs gs st hz hg)⟩
theorem two_chips (w : World) (zs : List Int) (gs : List Bool) (st : Int) : BC ((w.alloc (.cells (chipC zs gs st).toArray 65)).alloc (.cells zC.toArray 65)) w.heap.size zs gs st ∧ BC ((w.alloc (.cells (chipC zs gs st).toArray 65)).alloc (.cells zC.toArray 65)) (w.heap.size + 1) zZ zG 0 ∧ Below w.heap.size w ((w.alloc (.cells (chipC zs gs st).toArray 65)).alloc (.cells zC.toArray 65)) :=
  ⟨(BC.new _ _ _ _).alloc _, by have := BC.newZ (w.alloc (.cells (chipC zs gs st).toArray 65)); rw [World.size_alloc] at this; exact this, bt (alloc_below _ _) (alloc_below _ _)⟩

set_option maxRecDepth 100000 in
set_option maxHeartbeats 1000000 in
theorem chipProtect (k : Nat) (zs : List Int) (gs : List Bool) (st : Int) (w : World) (hz : zs.length = 256) (hg : gs.length = 16) (hk : k < 16) :
    Calls Tryd.prog 103 #[.agg (chipC zs gs st).toArray, .int .i64 k] w (GivesChip zs (gs.set k true) st w) := by
  obtain ⟨X0, Y0, hb0⟩ := two_chips w zs gs st
  have hc := X0.guard hz k (by omega)
  have hf := X0.frozen (256 + k)
  generalize gs.getD k false = q at hc
  obtain ⟨X1, Y1, hb1⟩ := two_chips w zs (gs.set k true) st
  have HE := Lib.hid (chipC_setGuard (st := st) hz k true (show k < gs.length by omega))
  have HH := Lib.hid (X1.hands Y1 hz (by rw [List.length_set]; exact hg) zZ_len zG_len)
  have HB := Lib.hid hb1
  generalize hcs : chipC zs (gs.set k true) st = cs at HE HH HB
  have HCs := Lib.hid hcs
  obtain ⟨W1, hW1⟩ : ∃ W1, W1 = (w.alloc (.cells cs.toArray 65)).alloc (.cells zC.toArray 65) := ⟨_, rfl⟩
  rw [← hW1] at HH HB
  have HW1 := Lib.hid hW1
  have hki : (k : Int) < 16 := by omega
  clear hz hg X0 Y0 X1 Y1 hb0 hb1 hcs hW1
  go_enter Tryd.func103, Tryd.ntmps103
  go_wp2_with (first
    | (with_reducible refine wpList_alloc_big rfl 65 rfl zC.toArray infoCx ?_)
    | (rw [HE.out, ← HW1.out]; with_reducible refine wpList_load_mid rfl 65 (.tmp 2) rfl w.heap.size 0 rfl cs _ HH.out.range Tryd.underlying65 rfl HH.out.size ?_)
    | (with_reducible refine wpList_store_mid rfl 65 (.tmp 4) (.tmp 8) rfl (w.heap.size + 1) 0 cs.toArray rfl rfl HH.out.room HH.out.size' HH.out.one ?_))
  refine bodyPost_ret (v := .agg cs.toArray) (results_cellC Tryd.results103 (by rfl) HH.out.back) rfl ?_
  exact ⟨by rw [HCs.out], below_setCellsC HB.out (by omega) 0 cs⟩

set_option maxRecDepth 100000 in
set_option maxHeartbeats 1000000 in
theorem chipProgram (k v : Nat) (zs : List Int) (gs : List Bool) (st : Int) (w : World) (hz : zs.length = 256) (hg : gs.length = 16) (hk : k < 256) (hv : v < 256) (hzs : ∀ z ∈ zs, 0 ≤ z ∧ z ≤ 255) :
    Calls Tryd.prog 101 #[.agg (chipC zs gs st).toArray, .int .i64 k, .int .u8 v] w (GivesChip (progL zs gs k v) gs st w) := by
  obtain ⟨X0, Y0, hb0⟩ := two_chips w zs gs st
  have hc := X0.cell k (by omega)
  have hf := X0.frozen k
  have hd := X0.guard hz (k / 16) (by omega)
  obtain ⟨z, hzk, hz2⟩ := at256 hzs k (by omega)
  obtain ⟨x, hx⟩ : ∃ x, bits .and .u8 (z : Int) (v : Int) = x := ⟨_, rfl⟩
  have HP : Hid (∀ q, gs.getD (k / 16) false = q → progL zs gs k v = if q then zs else zs.set k x) := Lib.hid (by
    intro q hq
    unfold progL
    rw [hq, hzk, ← hx, and_u8 z v hz2 hv]
    rfl)
  rw [hzk] at hc
  have hkd : ((k / 16 : Nat) : Int) < 16 := by omega
  have hki : (k : Int) < 256 := by omega
  have HB := Lib.hid (fun W => blockOf k (by omega) W)
  have HP2 := Lib.hid (HP.out _ rfl)
  generalize gs.getD (k / 16) false = q at hd HP2
  cases q
  · obtain ⟨X1, Y1, hb1⟩ := two_chips w (zs.set k x) gs st
    have HE := Lib.hid (chipC_setCell (gs := gs) (st := st) k x (show k < zs.length by omega))
    have HH := Lib.hid (X1.hands Y1 (by rw [List.length_set]; exact hz) hg zZ_len zG_len)
    have HBl := Lib.hid hb1
    have HR : Hid (progL zs gs k v = zs.set k x) := Lib.hid (by rw [HP2.out]; rfl)
    rw [← HR.out] at HE HH HBl
    generalize hcs : chipC (progL zs gs k v) gs st = cs at HE HH HBl
    have HCs := Lib.hid hcs
    obtain ⟨W1, hW1⟩ : ∃ W1, W1 = (w.alloc (.cells cs.toArray 65)).alloc (.cells zC.toArray 65) := ⟨_, rfl⟩
    rw [← hW1] at HH HBl
    have HW1 := Lib.hid hW1
    clear hz hg X0 Y0 X1 Y1 hb0 hb1 hcs hW1 HP HP2 HR hzs hzk
    go_enter Tryd.func101, Tryd.ntmps101
    go_wp2_with (first
      | (with_reducible refine wpList_alloc_big rfl 65 rfl zC.toArray infoCx ?_)
      | (go_at_call 104; refine (HB.out _).mono ?_; rintro e w' ⟨rfl, rfl⟩)
      | (rw [HE.out, ← HW1.out]; with_reducible refine wpList_load_mid rfl 65 (.tmp 3) rfl w.heap.size 0 rfl cs _ HH.out.range Tryd.underlying65 rfl HH.out.size ?_)
      | (with_reducible refine wpList_store_mid rfl 65 (.tmp 6) (.tmp 21) rfl (w.heap.size + 1) 0 cs.toArray rfl rfl HH.out.room HH.out.size' HH.out.one ?_))
    refine bodyPost_ret (v := .agg cs.toArray) (results_cellC Tryd.results101 (by rfl) HH.out.back) rfl ?_
    exact ⟨by rw [HCs.out], below_setCellsC HBl.out (by omega) 0 cs⟩
  · have HH := Lib.hid (X0.hands Y0 hz hg zZ_len zG_len)
    have HBl := Lib.hid hb0
    have HR : Hid (progL zs gs k v = zs) := Lib.hid (by rw [HP2.out]; rfl)
    generalize hcs : chipC zs gs st = cs at HH HBl hc hf hd
    have HCs : Hid (chipC (progL zs gs k v) gs st = cs) := Lib.hid (by rw [HR.out]; exact hcs)
    obtain ⟨W1, hW1⟩ : ∃ W1, W1 = (w.alloc (.cells cs.toArray 65)).alloc (.cells zC.toArray 65) := ⟨_, rfl⟩
    rw [← hW1] at HH HBl
    have HW1 := Lib.hid hW1
    clear hz hg X0 Y0 hb0 hcs hW1 HP HP2 HR hzs hzk
    go_enter Tryd.func101, Tryd.ntmps101
    go_wp2_with (first
      | (with_reducible refine wpList_alloc_big rfl 65 rfl zC.toArray infoCx ?_)
      | (go_at_call 104; refine (HB.out _).mono ?_; rintro e w' ⟨rfl, rfl⟩)
      | (rw [← HW1.out]; with_reducible refine wpList_load_mid rfl 65 (.tmp 3) rfl w.heap.size 0 rfl cs _ HH.out.range Tryd.underlying65 rfl HH.out.size ?_)
      | (with_reducible refine wpList_store_mid rfl 65 (.tmp 6) (.tmp 21) rfl (w.heap.size + 1) 0 cs.toArray rfl rfl HH.out.room HH.out.size' HH.out.one ?_))
    refine bodyPost_ret (v := .agg cs.toArray) (results_cellC Tryd.results101 (by rfl) HH.out.back) rfl ?_
    exact ⟨by rw [HCs.out], below_setCellsC HBl.out (by omega) 0 cs⟩

set_option maxRecDepth 100000 in
set_option maxHeartbeats 2000000 in
theorem chipErase (k : Nat) (zs : List Int) (gs : List Bool) (st : Int) (w : World) (hz : zs.length = 256) (hg : gs.length = 16) (hk : k < 16) :
    Calls Tryd.prog 25 #[.agg (chipC zs gs st).toArray, .int .i64 k] w (GivesChip (eraseL zs gs k) gs st w) := by
  obtain ⟨X0, Y0, hb0⟩ := two_chips w zs gs st
  have hd := X0.guard hz k (by omega)
  have HP : Hid (∀ q, gs.getD k false = q → eraseL zs gs k = if q then zs else fillR zs (k * 16) (k * 16 + 16)) := Lib.hid (by intro q hq; unfold eraseL; rw [hq])
  have hki : (k : Int) < 16 := by omega
  have HP2 := Lib.hid (HP.out _ rfl)
  generalize gs.getD k false = q at hd HP2
  cases q
  · have HR : Hid (eraseL zs gs k = fillR zs (k * 16) (k * 16 + 16)) := Lib.hid (by rw [HP2.out]; rfl)
    have HL := Lib.hid (And.intro hz hg)
    have HX := Lib.hid (And.intro X0 (And.intro Y0 hb0))
    clear hz hg X0 Y0 hb0 HP HP2
    go_enter Tryd.func25, Tryd.ntmps25
    go_wp2_with (first
      | (with_reducible refine wpList_alloc_big rfl 65 rfl zC.toArray infoCx ?_))
    go_loopw [11] (fun i wr => ∃ j : Nat, j ≤ 16 ∧ i = .int .i64 j ∧ Below w.heap.size w wr ∧ Hid (BC wr w.heap.size (fillR zs (k * 16) (k * 16 + j)) gs st) ∧ Hid (BC wr (w.heap.size + 1) zZ zG 0)) (fun i _ => 16 - (intOf i).toNat)
    case atStart => exact ⟨0, by omega, rfl, HX.out.2.2, Lib.hid (by rw [Nat.add_zero, fillR_none]; exact HX.out.1), Lib.hid HX.out.2.1⟩
    case round =>
      clear HX hd
      obtain ⟨j, hj, rfl, hbw, X, Y⟩ := hrel
      by_cases hlt : j < 16
      · have hc := X.out.cell (k * 16 + j) (by rw [fillR_len]; have := HL.out; omega)
        have hf := X.out.frozen (k * 16 + j)
        generalize (fillR zs (k * 16) (k * 16 + j)).getD (k * 16 + j) 0 = z at hc
        have hX := X.out.setC (k * 16 + j) 255 (by rw [fillR_len]; have := HL.out; omega)
        rw [fillR_next _ _ _ (by omega) (by have := HL.out; omega)] at hX
        have HXn := Lib.hid hX
        have HYn := Lib.hid (Y.out.far (p := ⟨w.heap.size, k * 16 + j, none⟩) (by show w.heap.size + 1 ≠ w.heap.size; omega) (.int .u8 255))
        have hb' : Below w.heap.size w (wr.setCell ⟨w.heap.size, k * 16 + j, none⟩ (.int .u8 255)) := hbw.setCell (p := ⟨w.heap.size, k * 16 + j, none⟩) (Nat.le_refl _) _
        have hi : (j : Int) < 16 := by omega
        have hidx : (k : Int) * 16 + (j : Int) < 256 := by omega
        clear hX X Y hbw
        go_wp2
        go_roundw
        case rel => exact ⟨j + 1, by omega, by go_num, hb', HXn, HYn⟩
        case measure => simp [intOf]; omega
      · obtain rfl : j = 16 := by omega
        have HH := Lib.hid (X.out.hands Y.out (by rw [fillR_len]; exact HL.out.1) HL.out.2 zZ_len zG_len)
        rw [← HR.out] at HH
        generalize hcs : chipC (eraseL zs gs k) gs st = cs at HH
        have HCs := Lib.hid hcs
        clear hcs X Y
        go_wp2_with (first
          | (with_reducible refine wpList_load_mid rfl 65 (.tmp 2) rfl w.heap.size 0 rfl cs _ HH.out.range Tryd.underlying65 rfl HH.out.size ?_)
          | (with_reducible refine wpList_store_mid rfl 65 (.tmp 4) (.tmp 21) rfl (w.heap.size + 1) 0 cs.toArray rfl rfl HH.out.room HH.out.size' HH.out.one ?_))
        refine bodyPost_ret (v := .agg cs.toArray) (results_cellC Tryd.results25 (by rfl) HH.out.back) rfl ?_
        exact ⟨by rw [HCs.out], below_setCellsC hbw (by omega) 0 cs⟩
  · have HH := Lib.hid (X0.hands Y0 hz hg zZ_len zG_len)
    have HBl := Lib.hid hb0
    have HR : Hid (eraseL zs gs k = zs) := Lib.hid (by rw [HP2.out]; rfl)
    generalize hcs : chipC zs gs st = cs at HH HBl hd
    have HCs : Hid (chipC (eraseL zs gs k) gs st = cs) := Lib.hid (by rw [HR.out]; exact hcs)
    obtain ⟨W1, hW1⟩ : ∃ W1, W1 = (w.alloc (.cells cs.toArray 65)).alloc (.cells zC.toArray 65) := ⟨_, rfl⟩
    rw [← hW1] at HH HBl
    have HW1 := Lib.hid hW1
    clear hz hg X0 Y0 hb0 hcs hW1 HP HP2 HR
    go_enter Tryd.func25, Tryd.ntmps25
    go_wp2_with (first
      | (with_reducible refine wpList_alloc_big rfl 65 rfl zC.toArray infoCx ?_)
      | (rw [← HW1.out]; with_reducible refine wpList_load_mid rfl 65 (.tmp 2) rfl w.heap.size 0 rfl cs _ HH.out.range Tryd.underlying65 rfl HH.out.size ?_)
      | (with_reducible refine wpList_store_mid rfl 65 (.tmp 4) (.tmp 10) rfl (w.heap.size + 1) 0 cs.toArray rfl rfl HH.out.room HH.out.size' HH.out.one ?_))
    refine bodyPost_ret (v := .agg cs.toArray) (results_cellC Tryd.results25 (by rfl) HH.out.back) rfl ?_
    exact ⟨by rw [HCs.out], below_setCellsC HBl.out (by omega) 0 cs⟩
end Go.Proofs.YtophgbjbinaekaaDoor

/- The contract of chipOf: a flash as a chip. -/
namespace Go.Proofs.YtophgbjbinaekaaDoor
open Go.RowKit

def takeZ (zs : List Int) (j : Nat) : List Int := (List.range 256).map fun i => if i < j then zs.getD i 0 else 0
theorem takeZ_len (zs : List Int) (j : Nat) : (takeZ zs j).length = 256 := by simp [takeZ]
theorem takeZ_at (zs : List Int) (j i : Nat) (h : i < 256) : (takeZ zs j).getD i 0 = if i < j then zs.getD i 0 else 0 := by
  unfold takeZ
  rw [List.getD_eq_getElem?_getD, List.getElem?_map, List.getElem?_range h]
  rfl
theorem takeZ_zero (zs : List Int) : takeZ zs 0 = zZ := by
  apply ext_getD 0 (by rw [takeZ_len, zZ_len])
  intro i hi
  rw [takeZ_len] at hi
  rw [takeZ_at _ _ _ hi, if_neg (by omega)]
  unfold zZ
  rw [List.getD_eq_getElem?_getD, List.getElem?_replicate, if_pos hi]
  rfl
theorem takeZ_all (zs : List Int) (h : zs.length = 256) : takeZ zs 256 = zs := by
  apply ext_getD 0 (by rw [takeZ_len, h])
  intro i hi
  rw [takeZ_len] at hi
  rw [takeZ_at _ _ _ hi, if_pos hi]
theorem takeZ_next (zs : List Int) (j : Nat) (hj : j < 256) : (takeZ zs j).set j (zs.getD j 0) = takeZ zs (j + 1) := by
  apply ext_getD 0 (by simp [takeZ_len])
  intro i hi
  have hi' : i < 256 := by simpa [takeZ_len] using hi
  rw [takeZ_at _ _ _ hi']
  by_cases e : i = j
  · subst e
    rw [List.getD_eq_getElem?_getD, List.getElem?_set_self (by rw [takeZ_len]; exact hj), if_pos (by omega)]
    rfl
  · rw [List.getD_eq_getElem?_getD, List.getElem?_set_ne (fun q => e q.symm), ← List.getD_eq_getElem?_getD, takeZ_at _ _ _ hi']
    by_cases q : i < j
    · rw [if_pos q, if_pos (by omega)]
    · rw [if_neg q, if_neg (by omega)]
theorem splice_guard (zs : List Int) (gs gs' : List Bool) (st : Int) (hz : zs.length = 256) (hg : gs.length = gs'.length) : splice (chipC zs gs st) 256 (cellsB gs') = chipC zs gs' st := by
  unfold splice chipC
  rw [List.take_append_of_le_length (by simp [hz]), List.take_of_length_le (by simp [hz]), List.drop_append, List.drop_of_length_le (by simp [hz]), cellsB_len, List.nil_append, List.length_map, hz, show 256 + gs'.length - 256 = gs'.length by omega, List.drop_append, List.drop_of_length_le (by simp [hg]), List.nil_append, List.length_map, hg, Nat.sub_self]
  rfl
set_option maxRecDepth 100000 in
theorem szBool : (Tryd.prog.info? 4).map (·.size) = some 1 := by kernel_rfl
theorem zC_len : zC.length = 273 := chipC_273 zZ_len zG_len 0
theorem zC_set (st : Int) : zC.set 272 (.int .i64 st) = chipC zZ zG st := chipC_setState zZ_len zG_len st
set_option maxRecDepth 100000 in
theorem buildChip (st : Int) (w : World) : (Instr.build 65 #[(2, .int .i64 st)]).run Tryd.prog w = .ok (.agg (chipC zZ zG st).toArray) w := by
  obtain ⟨i, hi, hz⟩ := infoCx
  have hzv : (zeroValue 65).run Tryd.prog w = .ok (.agg zC.toArray) w := by simp [zeroValue, typeInfo, hi, hz]
  have hf : Instr.fill (fun x => ([(0, 256), (256, 16), (272, 1)] : List (Nat × Nat))[x]?) zC.toArray [(2, Value.int .i64 st)] = some (chipC zZ zG st).toArray := by
    simp [Instr.fill, Value.cells, zC_len, zC_set]
  simp [Instr.build, hzv, Value.cells, hf]
theorem wpList_build_chip {P : Program} {ops : Array Oper} {rest : List Oper} {op : Oper} {a : Act} {w : World} {Q : Exit → Act → World → Prop} {t : TypeId} (hgd : op.guard = none) (x : Operand) (v : Value) (cs : List Value) (ho : op.op = .build t #[(2, x)]) (hx : a.eval x = v)
    (hr : (Instr.build t #[(2, v)]).run P w = .ok (.agg cs.toArray) w)
    (h : wpList P ops Q rest (a.put op.dst (.agg cs.toArray)) w) : wpList P ops Q (op :: rest) a w :=
  wpList_plain hgd fun _ hK => by
    unfold Oper.wp execOp
    simp only [ho, Sem.run_bind, Sem.run_pure, Result.andThen_ok, List.map_toArray, List.map_cons, List.map_nil, hx, hr]
    exact hK _ _ h

set_option maxRecDepth 100000 in
set_option maxHeartbeats 4000000 in
theorem chipOf (A C : Option Addr) (n c m d : Nat) (st : Int) (zs : List Int) (gs : List Bool) (w : World) (hl : zs.length = n) (hm : gs.length = m) (hn : n = 256) (hmm : m = 16) (hz : ∀ z ∈ zs, 0 ≤ z ∧ z ≤ 255) (h : IntL w A zs) (g : BoolL w C gs) :
    Calls Tryd.prog 36 #[.agg #[.slice A n c, .slice C m d, .int .i64 st]] w (GivesChip zs gs st w) := by
  obtain ⟨W2, hW2⟩ : ∃ W2, W2 = (((w.alloc (.cells #[.slice A n c, .slice C m d, .int .i64 st] 30)).alloc (.cells zC.toArray 65)).alloc (.cells zC.toArray 65)) := ⟨_, rfl⟩
  have hb2 : Below w.heap.size w W2 := by rw [hW2]; exact bt (bt (alloc_below _ _) (alloc_below _ _)) (alloc_below _ _)
  have X2 : Box W2 w.heap.size 30 #[.slice A n c, .slice C m d, .int .i64 st] := by rw [hW2]; exact ((Box.new _ _ _).alloc _).alloc _
  have Y2 : BC W2 (w.heap.size + 1) zZ zG 0 := by rw [hW2]; have := (BC.newZ (w.alloc (.cells #[.slice A n c, .slice C m d, .int .i64 st] 30))).alloc (.cells zC.toArray 65); rw [World.size_alloc] at this; exact this
  have Z2 : BC W2 (w.heap.size + 1 + 1) zZ zG 0 := by rw [hW2]; have := BC.newZ ((w.alloc (.cells #[.slice A n c, .slice C m d, .int .i64 st] 30)).alloc (.cells zC.toArray 65)); rw [World.size_alloc, World.size_alloc] at this; exact this
  have HT : Hid (W2.there (w.heap.size + 1 + 1) 0 (chipC zZ zG st).toArray.size) := Lib.hid ((show (chipC zZ zG st).toArray.size = 273 from List.size_toArray.trans (chipC_273 zZ_len zG_len st)) ▸ Z2.there273 zZ_len zG_len)
  have HS : Hid ((Tryd.prog.info? 65).map (·.size) = some (chipC zZ zG st).toArray.size) := Lib.hid (by rw [List.size_toArray]; exact sizeC zZ zG st zZ_len zG_len)
  have HO := Lib.hid (all_oneCell_toArray (chipC_one zZ zG st))
  have Z3 := Lib.hid (Z2.put (zs' := zZ) (gs' := zG) (st' := st) rfl rfl)
  have X3 := Lib.hid (setCells_far X2 (show w.heap.size ≠ w.heap.size + 1 + 1 by omega) 0 (chipC zZ zG st))
  have Y3 := Lib.hid (Y2.far' (show w.heap.size + 1 ≠ w.heap.size + 1 + 1 by omega) 0 (chipC zZ zG st))
  have hb3 := below_setCellsC hb2 (show w.heap.size ≤ w.heap.size + 1 + 1 by omega) 0 (chipC zZ zG st)
  have x0 := X2.cell 0 rfl
  have x2 := X2.cell 2 rfl
  have x0' := X3.out.cell 0 rfl
  have HL := Lib.hid (And.intro (hl.trans hn) (hm.trans hmm))
  have HZ := Lib.hid hz
  have H := Lib.hid (And.intro h g)
  have HSb := Lib.hid (fun W (hb : Below w.heap.size w W) => (g.below hb).src (by omega))
  have HW2 := Lib.hid hW2
  have HBd := Lib.hid (fun W => buildChip st W)
  have HIn := Lib.hid infoCx
  generalize hzc : zC.toArray = zc at HW2 HIn
  generalize hcz : chipC zZ zG st = cz at HT HS HO Z3 X3 Y3 hb3 x0' HBd
  have HCz := Lib.hid hcz
  rw [HW2.out] at HT x0 x2 x0'
  subst hn hmm
  clear hl hm hz h g X2 Y2 Z2 hW2 hzc hcz
  go_enter Tryd.func36, Tryd.ntmps36
  go_wp2_with (first
    | (with_reducible refine wpList_alloc_at rfl 65 rfl zc HIn.out (w.heap.size + 1 + 1) ((World.size_alloc _ _).trans (congrArg (· + 1) (World.size_alloc _ _))) ?_)
    | (with_reducible refine wpList_alloc_at rfl 65 rfl zc HIn.out (w.heap.size + 1) (World.size_alloc _ _) ?_)
    | (with_reducible refine wpList_build_chip rfl (.tmp 7) (.int .i64 st) cz rfl rfl (HBd.out _) ?_)
    | (with_reducible refine wpList_store_mid rfl 65 (.tmp 3) (.tmp 8) rfl (w.heap.size + 1 + 1) 0 cz.toArray rfl rfl HT.out HS.out HO.out ?_))
  rw [← HW2.out]
  have x0s : Hid True := Lib.hid trivial
  clear x0 x2 x0' HT HS HO HBd HIn x0s
  generalize W2.setCells (w.heap.size + 1 + 1) 0 cz = W3 at Z3 X3 Y3 hb3 ⊢
  clear hb2 HW2 HCz
  go_loopw [12] (fun i wr => ∃ j : Nat, j ≤ 256 ∧ i = .int .i64 j ∧ Below w.heap.size w wr ∧ Hid (Box wr w.heap.size 30 #[.slice A 256 c, .slice C 16 d, .int .i64 st]) ∧ Hid (BC wr (w.heap.size + 1) zZ zG 0) ∧ Hid (BC wr (w.heap.size + 1 + 1) (takeZ zs j) zG st)) (fun i _ => 256 - (intOf i).toNat)
  case atStart => exact ⟨0, by omega, rfl, hb3, X3, Y3, Lib.hid (by rw [takeZ_zero]; exact Z3.out)⟩
  case round =>
    clear hb3 X3 Y3 Z3
    obtain ⟨j, hj, rfl, hbw, X, Y, Z⟩ := hrel
    by_cases hlt : j < 256
    · obtain ⟨ab, aoff, rfl, hc⟩ := (H.out.1.below hbw) j (by rw [HL.out.1]; exact hlt)
      have hx := HZ.out (zs.getD j 0) (by rw [List.getD_eq_getElem?_getD, List.getElem?_eq_getElem (by rw [HL.out.1]; exact hlt)]; exact List.getElem_mem _)
      have hZ := Z.out.setC j (zs.getD j 0) (by rw [takeZ_len]; exact hlt)
      rw [takeZ_next zs j hlt] at hZ
      have hd := Z.out.cell j (by rw [takeZ_len]; exact hlt)
      generalize (takeZ zs j).getD j 0 = y at hd
      generalize zs.getD j 0 = x at hc hx hZ
      have hf := Z.out.frozen j
      have HZn := Lib.hid hZ
      have HXn := Lib.hid (X.out.far (p := ⟨w.heap.size + 1 + 1, j, none⟩) (by show w.heap.size ≠ w.heap.size + 1 + 1; omega) (.int .u8 x))
      have HYn := Lib.hid (Y.out.far (p := ⟨w.heap.size + 1 + 1, j, none⟩) (by show w.heap.size + 1 ≠ w.heap.size + 1 + 1; omega) (.int .u8 x))
      have hb' : Below w.heap.size w (wr.setCell ⟨w.heap.size + 1 + 1, j, none⟩ (.int .u8 x)) := hbw.setCell (p := ⟨w.heap.size + 1 + 1, j, none⟩) (by show w.heap.size ≤ w.heap.size + 1 + 1; omega) _
      have hi : (j : Int) < 256 := by omega
      have hwr := wrap8 x hx.1 (by omega)
      have hmd : x % 256 = x := by omega
      clear hZ X Y Z hbw
      go_wp2
      go_roundw
      case rel => exact ⟨j + 1, by omega, by go_num, hb', HXn, HYn, HZn⟩
      case measure => simp [intOf]; omega
    · obtain rfl : j = 256 := by omega
      have hZ := Z.out
      rw [takeZ_all zs HL.out.1] at hZ
      have HZ3 := Lib.hid hZ
      have x1 := X.out.cell 1 rfl
      have h6 : Below (w.heap.size + 1 + 1) wr wr.drew := (Below.refl _ _).drew
      have HS1 := Lib.hid (HSb.out _ hbw.drew)
      have HCb : Hid ((cellsB gs).length = Nat.min 16 16) := Lib.hid (by rw [cellsB_len, HL.out.2]; rfl)
      have HFit : Hid (256 + (cellsB gs).length ≤ (chipC zs zG st).length) := Lib.hid (by rw [cellsB_len, HL.out.2, chipC_273 HL.out.1 zG_len]; omega)
      have HOne : Hid (∀ v ∈ cellsB gs, v.oneCell' = true) := Lib.hid (fun v hv => by unfold cellsB at hv; obtain ⟨q, _, rfl⟩ := List.mem_map.1 hv; rfl)
      have HSp := Lib.hid (splice_guard zs zG gs st HL.out.1 (zG_len.trans HL.out.2.symm))
      have HG : Hid (wr.drew.heap[w.heap.size + 1 + 1]? = some (.cells (chipC zs zG st).toArray 65 (0, 0))) := Lib.hid hZ
      generalize cellsB gs = cb at HS1 HCb HFit HOne HSp
      generalize chipC zs zG st = ca at HFit HSp HG
      clear hZ Z
      have HK : Hid (∀ W', Below (w.heap.size + 1 + 1) wr W' → W'.cell? ⟨w.heap.size, 1, none⟩ = some (.slice C 16 d)) := Lib.hid (fun W' hb => (X.out.below hb (by omega)).cell 1 rfl)
      have HY : Hid (∀ W', Below (w.heap.size + 1 + 1) wr W' → BC W' (w.heap.size + 1) zZ zG 0) := Lib.hid (fun W' hb => Box.below Y.out hb (by omega))
      have HBw := Lib.hid hbw
      clear X Y x1 hbw
      go_wp2
      go_region_held3 (fun W => W.cell? ⟨w.heap.size, 1, none⟩ = some (.slice C 16 d))
        (first | exact HK.out _ h6 | exact HK.out _ hb2)
        (first | (refine step_copy_splice rfl (.tmp 24) (.tmp 26) 28 28 rfl 4 Tryd.underlying28 szBool _ _ 16 16 16 d rfl rfl (w.heap.size + 1 + 1) 256 ca 65 HG.out cb HCb.out (fun _ => ⟨rfl, HS1.out⟩) HFit.out HOne.out (w.heap.size + 1 + 1) wr h6 (Nat.le_refl _) ?_; intro w2 hg2 hb2))
      have hZ : BC w2 (w.heap.size + 1 + 1) zs gs st := by have := hg2.out; rw [HSp.out] at this; exact this
      have HH := Lib.hid (hZ.hands (HY.out _ hb2) HL.out.1 HL.out.2 zZ_len zG_len)
      have hbz : Below w.heap.size w w2 := HBw.out.trans (hb2.mono (by omega))
      generalize hcs : chipC zs gs st = cs at HH
      have HCs := Lib.hid hcs
      clear hcs hZ HY HK HSp HG HS1 HCb HFit HOne hg2 hb2 h6
      go_wp2_with (first
        | (with_reducible refine wpList_load_mid rfl 65 (.tmp 3) rfl (w.heap.size + 1 + 1) 0 rfl cs _ HH.out.range Tryd.underlying65 rfl HH.out.size ?_)
        | (with_reducible refine wpList_store_mid rfl 65 (.tmp 2) (.tmp 28) rfl (w.heap.size + 1) 0 cs.toArray rfl rfl HH.out.room HH.out.size' HH.out.one ?_))
      refine bodyPost_ret (v := .agg cs.toArray) (results_cellC Tryd.results36 (by rfl) HH.out.back) rfl ?_
      exact ⟨by rw [HCs.out], below_setCellsC hbz (by omega) 0 cs⟩
end Go.Proofs.YtophgbjbinaekaaDoor

/- The model's l03Guard and l03Erase. -/
namespace Go.Proofs.YtophgbjbinaekaaDoor
open Go.RowKit

end Go.Proofs.YtophgbjbinaekaaDoor

/- What the functions that hand back a flash and a code answer; the model's ProgramCell, EraseBlock, GuardBlock. -/
namespace Go.Proofs.YtophgbjbinaekaaDoor
open Go.RowKit

theorem progL_range {zs : List Int} {gs : List Bool} {k v : Nat} (h : ∀ z ∈ zs, 0 ≤ z ∧ z ≤ 255) (hv : v < 256) : ∀ z ∈ progL zs gs k v, 0 ≤ z ∧ z ≤ 255 := by
  intro z hz
  unfold progL at hz
  split at hz
  · exact h z hz
  · rcases List.mem_or_eq_of_mem_set hz with q | rfl
    · exact h z q
    · have := and_lt v (zs.getD k 0).toNat hv
      rw [Nat.and_comm] at this
      omega
theorem fillR_range {zs : List Int} (h : ∀ z ∈ zs, 0 ≤ z ∧ z ≤ 255) (a b : Nat) : ∀ z ∈ fillR zs a b, 0 ≤ z ∧ z ≤ 255 := by
  intro z hz
  unfold fillR at hz
  obtain ⟨i, hi, rfl⟩ := List.mem_map.1 hz
  have hi' : i < zs.length := by simpa using hi
  split
  · omega
  · exact h _ (by rw [List.getD_eq_getElem?_getD, List.getElem?_eq_getElem hi']; exact List.getElem_mem _)
theorem eraseL_range {zs : List Int} {gs : List Bool} {b : Nat} (h : ∀ z ∈ zs, 0 ≤ z ∧ z ≤ 255) : ∀ z ∈ eraseL zs gs b, 0 ≤ z ∧ z ≤ 255 := by
  intro z hz
  unfold eraseL at hz
  split at hz
  · exact h z hz
  · exact fillR_range h _ _ z hz
end Go.Proofs.YtophgbjbinaekaaDoor

/- Contracts of Flash.identify, l01Bit, l03Read and both BusRead. -/
namespace Go.Proofs.YtophgbjbinaekaaDoor
open Go.RowKit

def readV (zs : List Int) (gs : List Bool) (st : Int) (n : Nat) : Int :=
  if st = 7 then (if n % 4 = 0 then 32 else if n % 4 = 1 then 47 else if n % 4 = 2 then (if gs.getD (n / 16) false then 1 else 0) else 255) else zs.getD n 0
end Go.Proofs.YtophgbjbinaekaaDoor

/- Leaves of Go values as data: what a value says, rows of the call's own, what a call that writes into some of them keeps. Nothing here is of one type of the program. -/
namespace Go.Proofs.YtophgbjbinaekaaDoor
open Go.RowKit

inductive Lf where
  | I (zs : List Int)
  | B (gs : List Bool)
  | S (ss : List ByteArray)
  | R (T : TypeId) (k : Nat) (hk : k ≤ 16) (rows : List (List Value))

def RowL (w : World) (A : Option Addr) (k : Nat) (rows : List (List Value)) : Prop :=
  ∀ i, i < rows.length → ∀ j, j < k → ∃ b off, A = some ⟨b, off, none⟩ ∧ w.cell? ⟨b, off + i * k + j, none⟩ = some ((rows.getD i []).getD j undef)
theorem RowL.below {w w' : World} {A : Option Addr} {k : Nat} {rows : List (List Value)} (h : RowL w A k rows) (hb : Below w.heap.size w w') : RowL w' A k rows := fun i hi j hj => by
  obtain ⟨b, off, e, hc⟩ := h i hi j hj
  exact ⟨b, off, e, (hb.cell (cell_lt hc)).trans hc⟩
def OwnR (w : World) (lo hi : Nat) (T : TypeId) (A : Option Addr) (k : Nat) (rows : List (List Value)) : Prop :=
  rows = [] ∨ ∃ b m f, A = some ⟨b, 0, none⟩ ∧ lo ≤ b ∧ b < hi ∧ rows.length * k ≤ m ∧ w.rowIs b T m f ∧ ∀ i, i < rows.length → ∀ j, j < k → f (i * k + j) = (rows.getD i []).getD j undef
theorem row_place {n k m i j : Nat} (hi : i < n) (hj : j < k) (h : n * k ≤ m) : i * k + j < m := by
  have h1 : (i + 1) * k ≤ n * k := Nat.mul_le_mul_right k hi
  have h2 : (i + 1) * k = i * k + k := Nat.succ_mul i k
  omega
theorem OwnR.reads {w : World} {lo hi : Nat} {T : TypeId} {A : Option Addr} {k : Nat} {rows : List (List Value)} (h : OwnR w lo hi T A k rows) : RowL w A k rows := fun i hi' j hj => by
  rcases h with rfl | ⟨b, m, f, e, _, _, hm, hr, hf⟩
  · simp at hi'
  · exact ⟨b, 0, e, by rw [← hf i hi' j hj, Nat.zero_add]; exact hr.cell (row_place hi' hj hm)⟩
theorem OwnR.btw {w w' : World} {lo hi l h' : Nat} {T : TypeId} {A : Option Addr} {k : Nat} {rows : List (List Value)} (h : OwnR w lo hi T A k rows) (hb : Btw l h' w w') (ho : hi ≤ l ∨ h' ≤ lo) : OwnR w' lo hi T A k rows := by
  rcases h with e | ⟨b, m, f, e, h1, h2, hm, hr, hf⟩
  · exact .inl e
  · exact .inr ⟨b, m, f, e, h1, h2, hm, hb.row hr (by omega), hf⟩
theorem OwnR.below {w w' : World} {lo hi : Nat} {T : TypeId} {A : Option Addr} {k : Nat} {rows : List (List Value)} (h : OwnR w lo hi T A k rows) (hb : Below w.heap.size w w') : OwnR w' lo hi T A k rows := h.btw (Btw.of_below hb hi hi) (.inl (Nat.le_refl _))
theorem OwnR.wide {w : World} {lo hi lo' hi' : Nat} {T : TypeId} {A : Option Addr} {k : Nat} {rows : List (List Value)} (h : OwnR w lo hi T A k rows) (h1 : lo' ≤ lo) (h2 : hi ≤ hi') : OwnR w lo' hi' T A k rows := by
  rcases h with e | ⟨b, m, f, e, p1, p2, hm, hr, hf⟩
  · exact .inl e
  · exact .inr ⟨b, m, f, e, by omega, by omega, hm, hr, hf⟩
def markV (k : Nat) : Value → Value
  | .int _ _ => .int .i64 (k : Int)
  | .bool _ => .bool (decide (k % 3 = 0))
  | .string _ => .string (mkText k)
  | v => v
def markRows (q k : Nat) (rows : List (List Value)) : List (List Value) :=
  (List.range rows.length).map fun i => (List.range k).map fun j => markV (q + i * k + j) ((rows.getD i []).getD j undef)
def Lf.len : Lf → Nat
  | .I zs => zs.length
  | .B gs => gs.length
  | .S ss => ss.length
  | .R _ k _ rows => rows.length * k
def Lf.slen : Lf → Nat
  | .I zs => zs.length
  | .B gs => gs.length
  | .S ss => ss.length
  | .R _ _ _ rows => rows.length
def Lf.sz : Lf → Nat
  | .I zs => zs.length
  | .B gs => gs.length
  | .S ss => ss.length + lenS ss
  | .R _ _ _ rows => rows.length
def Lf.marks (k : Nat) : Lf → Lf
  | .I zs => .I (marksI k zs.length)
  | .B gs => .B (marksB k gs.length)
  | .S ss => .S (marksS k ss.length)
  | .R T n hn rows => .R T n hn (markRows k n rows)
def Lf.fit : Lf → Prop
  | .I zs => zs.length ≤ maxLen
  | .B gs => gs.length ≤ maxLen
  | .S ss => ss.length ≤ maxLen ∧ FitS ss
  | .R _ _ _ rows => rows.length ≤ maxLen

def RepL (w : World) (v : Value) : Lf → Prop
  | .I zs => ∃ A c, v = .slice A zs.length c ∧ IntL w A zs
  | .B gs => ∃ A c, v = .slice A gs.length c ∧ BoolL w A gs
  | .S ss => ∃ A c, v = .slice A ss.length c ∧ StrL w A ss
  | .R _ k _ rows => ∃ A c, v = .slice A rows.length c ∧ RowL w A k rows
def OwnL (w : World) (lo hi : Nat) (v : Value) : Lf → Prop
  | .I zs => ∃ A c, v = .slice A zs.length c ∧ OwnI w lo hi A zs
  | .B gs => ∃ A c, v = .slice A gs.length c ∧ OwnB w lo hi A gs
  | .S ss => ∃ A c, v = .slice A ss.length c ∧ OwnS w lo hi A ss
  | .R T k _ rows => ∃ A c, v = .slice A rows.length c ∧ OwnR w lo hi T A k rows
def CapL (v : Value) : Prop := ∀ A n c, v = .slice A n c → n ≤ c
def blkL : Value → Option Nat
  | .slice (some a) n _ => if n = 0 then none else some a.block
  | _ => none
theorem blkL_some {b off : Nat} {n c : Nat} (h : 0 < n) : blkL (.slice (some ⟨b, off, none⟩) n c) = some b := by simp [blkL]; omega
theorem blkL_zero (A : Option Addr) (c : Nat) : blkL (.slice A 0 c) = none := by cases A <;> simp [blkL]

def AllA (P : Value → Lf → Prop) : List Value → List Lf → Prop
  | [], [] => True
  | v :: vs, d :: ds => P v d ∧ AllA P vs ds
  | _, _ => False
def RepA (w : World) (vs : List Value) (ds : List Lf) : Prop := AllA (RepL w) vs ds
def OwnA (w : World) (lo hi : Nat) (vs : List Value) (ds : List Lf) : Prop := AllA (OwnL w lo hi) vs ds ∧ (vs.filterMap blkL).Nodup

theorem AllA.imp {P Q : Value → Lf → Prop} : ∀ {vs : List Value} {ds : List Lf}, (∀ v d, v ∈ vs → P v d → Q v d) → AllA P vs ds → AllA Q vs ds
  | [], [], _, _ => trivial
  | v :: vs, d :: ds, h, ⟨h1, h2⟩ => ⟨h v d (by simp) h1, AllA.imp (fun v' d' hm => h v' d' (by simp [hm])) h2⟩
  | [], _ :: _, _, h => h.elim
  | _ :: _, [], _, h => h.elim

theorem RepL.below {w w' : World} {v : Value} : ∀ {d : Lf}, RepL w v d → Below w.heap.size w w' → RepL w' v d
  | .I _, ⟨A, c, e, h⟩, hb => ⟨A, c, e, h.below hb⟩
  | .B _, ⟨A, c, e, h⟩, hb => ⟨A, c, e, h.below hb⟩
  | .S _, ⟨A, c, e, h⟩, hb => ⟨A, c, e, h.below hb⟩
  | .R _ _ _ _, ⟨A, c, e, h⟩, hb => ⟨A, c, e, h.below hb⟩
theorem RepA.below {w w' : World} {vs : List Value} {ds : List Lf} (h : RepA w vs ds) (hb : Below w.heap.size w w') : RepA w' vs ds := AllA.imp (fun _ _ _ h => h.below hb) h
theorem OwnL.below {w w' : World} {lo hi : Nat} {v : Value} : ∀ {d : Lf}, OwnL w lo hi v d → Below w.heap.size w w' → OwnL w' lo hi v d
  | .I _, ⟨A, c, e, h⟩, hb => ⟨A, c, e, h.below hb⟩
  | .B _, ⟨A, c, e, h⟩, hb => ⟨A, c, e, h.below hb⟩
  | .S _, ⟨A, c, e, h⟩, hb => ⟨A, c, e, h.below hb⟩
  | .R _ _ _ _, ⟨A, c, e, h⟩, hb => ⟨A, c, e, h.below hb⟩
theorem OwnL.btw {w w' : World} {lo hi l r : Nat} {v : Value} : ∀ {d : Lf}, OwnL w lo hi v d → Btw l r w w' → (hi ≤ l ∨ r ≤ lo) → OwnL w' lo hi v d
  | .I _, ⟨A, c, e, h⟩, hb, ho => ⟨A, c, e, h.btw hb ho⟩
  | .B _, ⟨A, c, e, h⟩, hb, ho => ⟨A, c, e, h.btw hb ho⟩
  | .S _, ⟨A, c, e, h⟩, hb, ho => ⟨A, c, e, h.btw hb ho⟩
  | .R _ _ _ _, ⟨A, c, e, h⟩, hb, ho => ⟨A, c, e, h.btw hb ho⟩
theorem OwnL.wide {w : World} {lo hi lo' hi' : Nat} {v : Value} : ∀ {d : Lf}, OwnL w lo hi v d → lo' ≤ lo → hi ≤ hi' → OwnL w lo' hi' v d
  | .I _, ⟨A, c, e, h⟩, h1, h2 => ⟨A, c, e, h.wideB h1 h2⟩
  | .B _, ⟨A, c, e, h⟩, h1, h2 => ⟨A, c, e, h.wide h1 h2⟩
  | .S _, ⟨A, c, e, h⟩, h1, h2 => ⟨A, c, e, h.wide h1 h2⟩
  | .R _ _ _ _, ⟨A, c, e, h⟩, h1, h2 => ⟨A, c, e, h.wide h1 h2⟩
theorem OwnL.reads {w : World} {lo hi : Nat} {v : Value} : ∀ {d : Lf}, OwnL w lo hi v d → RepL w v d
  | .I _, ⟨A, c, e, h⟩ => ⟨A, c, e, h.reads⟩
  | .B _, ⟨A, c, e, h⟩ => ⟨A, c, e, h.reads⟩
  | .S _, ⟨A, c, e, h⟩ => ⟨A, c, e, h.reads⟩
  | .R _ _ _ _, ⟨A, c, e, h⟩ => ⟨A, c, e, h.reads⟩
theorem OwnL.form {w : World} {lo hi : Nat} {v : Value} : ∀ {d : Lf}, OwnL w lo hi v d → ∃ A c, v = .slice A d.slen c
  | .I _, ⟨A, c, e, _⟩ => ⟨A, c, e⟩
  | .B _, ⟨A, c, e, _⟩ => ⟨A, c, e⟩
  | .S _, ⟨A, c, e, _⟩ => ⟨A, c, e⟩
  | .R _ _ _ _, ⟨A, c, e, _⟩ => ⟨A, c, e⟩
theorem RepL.form {w : World} {v : Value} : ∀ {d : Lf}, RepL w v d → ∃ A c, v = .slice A d.slen c
  | .I _, ⟨A, c, e, _⟩ => ⟨A, c, e⟩
  | .B _, ⟨A, c, e, _⟩ => ⟨A, c, e⟩
  | .S _, ⟨A, c, e, _⟩ => ⟨A, c, e⟩
  | .R _ _ _ _, ⟨A, c, e, _⟩ => ⟨A, c, e⟩
theorem OwnA.below {w w' : World} {lo hi : Nat} {vs : List Value} {ds : List Lf} (h : OwnA w lo hi vs ds) (hb : Below w.heap.size w w') : OwnA w' lo hi vs ds := ⟨AllA.imp (fun _ _ _ h => h.below hb) h.1, h.2⟩
theorem OwnA.btw {w w' : World} {lo hi l r : Nat} {vs : List Value} {ds : List Lf} (h : OwnA w lo hi vs ds) (hb : Btw l r w w') (ho : hi ≤ l ∨ r ≤ lo) : OwnA w' lo hi vs ds := ⟨AllA.imp (fun _ _ _ h => h.btw hb ho) h.1, h.2⟩
theorem OwnA.wide {w : World} {lo hi lo' hi' : Nat} {vs : List Value} {ds : List Lf} (h : OwnA w lo hi vs ds) (h1 : lo' ≤ lo) (h2 : hi ≤ hi') : OwnA w lo' hi' vs ds := ⟨AllA.imp (fun _ _ _ h => h.wide h1 h2) h.1, h.2⟩
theorem OwnA.reads {w : World} {lo hi : Nat} {vs : List Value} {ds : List Lf} (h : OwnA w lo hi vs ds) : RepA w vs ds := AllA.imp (fun _ _ _ h => h.reads) h.1

structure Touch (vs : List Value) (w w' : World) : Prop where
  os : w'.os = w.os
  tape : w'.tape = w.tape
  output : w'.output = w.output
  size : w.heap.size ≤ w'.heap.size
  block : ∀ k, k < w.heap.size → k ∉ vs.filterMap blkL → w'.heap[k]? = w.heap[k]?
theorem Touch.refl (vs : List Value) (w : World) : Touch vs w w := ⟨rfl, rfl, rfl, Nat.le_refl _, fun _ _ _ => rfl⟩
theorem Touch.trans {vs us : List Value} {a b c : World} (h : Touch vs a b) (k : Touch us b c) : Touch (vs ++ us) a c :=
  ⟨k.os.trans h.os, k.tape.trans h.tape, k.output.trans h.output, Nat.le_trans h.size k.size, fun i hi hn => by
    rw [List.filterMap_append, List.mem_append] at hn
    exact (k.block i (Nat.lt_of_lt_of_le hi h.size) (fun h => hn (.inr h))).trans (h.block i hi (fun h => hn (.inl h)))⟩
theorem Touch.of_below {w w' : World} (h : Below w.heap.size w w') (vs : List Value) : Touch vs w w' := ⟨h.os, h.tape, h.output, h.size, fun k hk _ => h.block k hk⟩
theorem Touch.more {vs us : List Value} {w w' : World} (h : Touch vs w w') (hs : ∀ k, k ∈ vs.filterMap blkL → k ∈ us.filterMap blkL) : Touch us w w' := ⟨h.os, h.tape, h.output, h.size, fun k hk hn => h.block k hk (fun h => hn (hs k h))⟩
theorem OwnL.blk {w : World} {lo hi : Nat} {v : Value} {b : Nat} (hb : blkL v = some b) : ∀ {d : Lf}, OwnL w lo hi v d → lo ≤ b ∧ b < hi
  | .I zs, ⟨A, c, e, h⟩ => by
    subst e
    rcases h with rfl | ⟨g, m, f, rfl, h1, h2, _⟩
    · rw [List.length_nil, blkL_zero] at hb; cases hb
    · rcases Nat.eq_zero_or_pos zs.length with hz | hz
      · rw [hz, blkL_zero] at hb; cases hb
      · rw [blkL_some hz] at hb; injection hb with hb; subst hb; exact ⟨h1, h2⟩
  | .B zs, ⟨A, c, e, h⟩ => by
    subst e
    rcases h with rfl | ⟨g, m, f, rfl, h1, h2, _⟩
    · rw [List.length_nil, blkL_zero] at hb; cases hb
    · rcases Nat.eq_zero_or_pos zs.length with hz | hz
      · rw [hz, blkL_zero] at hb; cases hb
      · rw [blkL_some hz] at hb; injection hb with hb; subst hb; exact ⟨h1, h2⟩
  | .S zs, ⟨A, c, e, h⟩ => by
    subst e
    rcases h with rfl | ⟨g, m, f, rfl, h1, h2, _⟩
    · rw [List.length_nil, blkL_zero] at hb; cases hb
    · rcases Nat.eq_zero_or_pos zs.length with hz | hz
      · rw [hz, blkL_zero] at hb; cases hb
      · rw [blkL_some hz] at hb; injection hb with hb; subst hb; exact ⟨h1, h2⟩
  | .R _ _ _ zs, ⟨A, c, e, h⟩ => by
    subst e
    rcases h with rfl | ⟨g, m, f, rfl, h1, h2, _⟩
    · rw [List.length_nil, blkL_zero] at hb; cases hb
    · rcases Nat.eq_zero_or_pos zs.length with hz | hz
      · rw [hz, blkL_zero] at hb; cases hb
      · rw [blkL_some hz] at hb; injection hb with hb; subst hb; exact ⟨h1, h2⟩
theorem AllA.mem {P : Value → Lf → Prop} : ∀ {vs : List Value} {ds : List Lf} {v : Value}, AllA P vs ds → v ∈ vs → ∃ d, P v d
  | v :: vs, d :: ds, u, ⟨h1, h2⟩, hm => by
    rcases List.mem_cons.1 hm with rfl | hm
    · exact ⟨d, h1⟩
    · exact AllA.mem h2 hm
  | [], [], _, _, hm => by cases hm
theorem OwnA.blk {w : World} {lo hi : Nat} {vs : List Value} {ds : List Lf} (h : OwnA w lo hi vs ds) {b : Nat} (hb : b ∈ vs.filterMap blkL) : lo ≤ b ∧ b < hi := by
  obtain ⟨v, hv, he⟩ := List.mem_filterMap.1 hb
  obtain ⟨d, hd⟩ := h.1.mem hv
  exact hd.blk he
theorem Touch.btw {w w' : World} {lo hi : Nat} {vs : List Value} {ds : List Lf} (h : OwnA w lo hi vs ds) (t : Touch vs w w') : Btw lo hi w w' :=
  ⟨t.os, t.tape, t.output, t.size, fun k hk ho => t.block k hk (fun hm => by have := h.blk hm; omega)⟩
theorem OwnL.away {w w' : World} {lo hi : Nat} {v : Value} {us : List Value} (t : Touch us w w') (hn : ∀ b, blkL v = some b → b ∉ us.filterMap blkL) : ∀ {d : Lf}, OwnL w lo hi v d → OwnL w' lo hi v d
  | .I zs, ⟨A, c, e, h⟩ => by
    refine ⟨A, c, e, ?_⟩
    rcases h with h | ⟨g, m, f, rfl, h1, h2, hm, hr, hf⟩
    · exact .inl h
    · by_cases hz : zs = []
      · exact .inl hz
      · exact .inr ⟨g, m, f, rfl, h1, h2, hm, hr.of_block (t.block g hr.lt (hn g (by rw [e]; exact blkL_some (List.length_pos_iff.2 hz)))), hf⟩
  | .B zs, ⟨A, c, e, h⟩ => by
    refine ⟨A, c, e, ?_⟩
    rcases h with h | ⟨g, m, f, rfl, h1, h2, hm, hr, hf⟩
    · exact .inl h
    · by_cases hz : zs = []
      · exact .inl hz
      · exact .inr ⟨g, m, f, rfl, h1, h2, hm, hr.of_block (t.block g hr.lt (hn g (by rw [e]; exact blkL_some (List.length_pos_iff.2 hz)))), hf⟩
  | .S zs, ⟨A, c, e, h⟩ => by
    refine ⟨A, c, e, ?_⟩
    rcases h with h | ⟨g, m, f, rfl, h1, h2, hm, hr, hf⟩
    · exact .inl h
    · by_cases hz : zs = []
      · exact .inl hz
      · exact .inr ⟨g, m, f, rfl, h1, h2, hm, hr.of_block (t.block g hr.lt (hn g (by rw [e]; exact blkL_some (List.length_pos_iff.2 hz)))), hf⟩
  | .R _ _ _ zs, ⟨A, c, e, h⟩ => by
    refine ⟨A, c, e, ?_⟩
    rcases h with h | ⟨g, m, f, rfl, h1, h2, hm, hr, hf⟩
    · exact .inl h
    · by_cases hz : zs = []
      · exact .inl hz
      · exact .inr ⟨g, m, f, rfl, h1, h2, hm, hr.of_block (t.block g hr.lt (hn g (by rw [e]; exact blkL_some (List.length_pos_iff.2 hz)))), hf⟩
theorem OwnA.away {w w' : World} {lo hi : Nat} {vs us : List Value} {ds : List Lf} (t : Touch us w w') (hn : ∀ b, b ∈ vs.filterMap blkL → b ∉ us.filterMap blkL) (h : OwnA w lo hi vs ds) : OwnA w' lo hi vs ds :=
  ⟨AllA.imp (fun v _ hv h => h.away t (fun b hb => hn b (List.mem_filterMap.2 ⟨v, hv, hb⟩))) h.1, h.2⟩
theorem OwnA.cons {w : World} {lo hi : Nat} {v : Value} {vs : List Value} {d : Lf} {ds : List Lf} (h1 : OwnL w lo hi v d) (h2 : OwnA w lo hi vs ds) (hn : ∀ b, blkL v = some b → b ∉ vs.filterMap blkL) : OwnA w lo hi (v :: vs) (d :: ds) := by
  refine ⟨⟨h1, h2.1⟩, ?_⟩
  rw [List.filterMap_cons]
  cases hb : blkL v with
  | none => exact h2.2
  | some b => exact List.nodup_cons.2 ⟨hn b hb, h2.2⟩
theorem OwnA.nil (w : World) (lo hi : Nat) : OwnA w lo hi [] [] := ⟨trivial, List.nodup_nil⟩
theorem OwnA.append {w : World} {lo hi lo' hi' L R : Nat} {vs us : List Value} {ds es : List Lf} (h : OwnA w lo hi vs ds) (k : OwnA w lo' hi' us es) (ho : hi ≤ lo' ∨ hi' ≤ lo) (h1 : L ≤ lo) (h2 : L ≤ lo') (h3 : hi ≤ R) (h4 : hi' ≤ R) : OwnA w L R (vs ++ us) (ds ++ es) := by
  have aux : ∀ {vs : List Value} {ds : List Lf}, AllA (OwnL w L R) vs ds → AllA (OwnL w L R) us es → AllA (OwnL w L R) (vs ++ us) (ds ++ es) := by
    intro vs
    induction vs with
    | nil => intro ds a b; cases ds with
      | nil => exact b
      | cons d ds => exact a.elim
    | cons v vs ih => intro ds a b; cases ds with
      | nil => exact a.elim
      | cons d ds => exact ⟨a.1, ih a.2 b⟩
  refine ⟨aux (h.wide h1 h3).1 (k.wide h2 h4).1, ?_⟩
  rw [List.filterMap_append, List.nodup_append]
  refine ⟨h.2, k.2, fun a ha b hb e => ?_⟩
  subst e
  have := h.blk ha
  have := k.blk hb
  omega
end Go.Proofs.YtophgbjbinaekaaDoor

/- The laws' own functions over []int, []bool, []string, on leaves. -/
namespace Go.Proofs.YtophgbjbinaekaaDoor
open Go.RowKit

end Go.Proofs.YtophgbjbinaekaaDoor
