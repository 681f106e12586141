/- Texts of this claim, one behind the other: Chip, ChipOps, ChipOf, ChipFlash, ChipCycle, ChipWipe, FlashSpec2, FlashOps, CycleOf, MemMath, BusRead. -/
import Derived.Deep.MidRow
import Derived.Laws.CopyOwn
import Derived.Deep.RegionHeld3
import Derived.Deep.DeepCutAuto
import Derived.Deep.DeepFit
import Derived.StillTailTactics
import Derived.Test.YtagdclbpgkilgaaM1
/- A chip's value: 256 bytes, 16 booleans, a state, one cell each; contracts of chip.protect, chip.program, chip.erase. -/
namespace Go.Proofs.Ytagdclbpgkilgaa
open Go.RowKit

def chipC (zs : List Int) (gs : List Bool) (st : Int) : List Value := zs.map (fun z => Value.int .u8 z) ++ (gs.map Value.bool ++ [Value.int .i64 st])
theorem chipC_len (zs : List Int) (gs : List Bool) (st : Int) : (chipC zs gs st).length = zs.length + (gs.length + 1) := by simp [chipC]
theorem chipC_cell {zs : List Int} {gs : List Bool} {st : Int} (k : Nat) (hk : k < zs.length) : (chipC zs gs st)[k]? = some (.int .u8 (zs.getD k 0)) := by
  unfold chipC
  rw [List.getElem?_append_left (by simpa using hk), List.getElem?_map, List.getD_eq_getElem?_getD, List.getElem?_eq_getElem hk]
  rfl
theorem chipC_guard {zs : List Int} {gs : List Bool} {st : Int} (hz : zs.length = 256) (k : Nat) (hk : k < gs.length) : (chipC zs gs st)[256 + k]? = some (.bool (gs.getD k false)) := by
  unfold chipC
  rw [List.getElem?_append_right (by simp [hz]), List.length_map, hz, Nat.add_sub_cancel_left, List.getElem?_append_left (by simpa using hk), List.getElem?_map, List.getD_eq_getElem?_getD, List.getElem?_eq_getElem hk]
  rfl
theorem chipC_state {zs : List Int} {gs : List Bool} {st : Int} (hz : zs.length = 256) (hg : gs.length = 16) : (chipC zs gs st)[272]? = some (.int .i64 st) := by
  unfold chipC
  rw [List.getElem?_append_right (by simp [hz]), List.length_map, hz, List.getElem?_append_right (by simp [hg]), List.length_map, hg]
  rfl
theorem chipC_setCell {zs : List Int} {gs : List Bool} {st : Int} (k : Nat) (x : Int) (hk : k < zs.length) : (chipC zs gs st).set k (.int .u8 x) = chipC (zs.set k x) gs st := by
  unfold chipC
  rw [List.set_append_left _ _ (by simpa using hk), List.map_set]
theorem chipC_setGuard {zs : List Int} {gs : List Bool} {st : Int} (hz : zs.length = 256) (k : Nat) (x : Bool) (hk : k < gs.length) : (chipC zs gs st).set (256 + k) (.bool x) = chipC zs (gs.set k x) st := by
  unfold chipC
  rw [List.set_append_right _ _ (by simp [hz]), List.length_map, hz, Nat.add_sub_cancel_left, List.set_append_left _ _ (by simpa using hk), List.map_set]
theorem chipC_setState {zs : List Int} {gs : List Bool} {st : Int} (hz : zs.length = 256) (hg : gs.length = 16) (x : Int) : (chipC zs gs st).set 272 (.int .i64 x) = chipC zs gs x := by
  unfold chipC
  rw [List.set_append_right _ _ (by simp [hz]), List.length_map, hz, List.set_append_right _ _ (by simp [hg]), List.length_map, hg]
  rfl
theorem chipC_one (zs : List Int) (gs : List Bool) (st : Int) : ∀ v ∈ chipC zs gs st, v.oneCell' = true := by
  intro v hv
  unfold chipC at hv
  simp only [List.mem_append, List.mem_map, List.mem_singleton] at hv
  rcases hv with ⟨z, _, rfl⟩ | ⟨z, _, rfl⟩ | rfl <;> rfl

/-- Block b is this chip. -/
def BC (w : World) (b : Nat) (zs : List Int) (gs : List Bool) (st : Int) : Prop := Box w b 108 (chipC zs gs st).toArray
section
variable {w w' : World} {b : Nat} {zs : List Int} {gs : List Bool} {st : Int}
theorem BC.range (h : BC w b zs gs st) : w.rangeAt b 0 (chipC zs gs st) := fun j v hv => by
  rw [Nat.zero_add]; exact Box.cell h j (by simpa using hv)
theorem BC.there (h : BC w b zs gs st) : w.there b 0 (chipC zs gs st).length := fun j hj => by
  rw [Nat.zero_add]
  exact ⟨by rw [Box.cell h j (by rw [List.getElem?_toArray, List.getElem?_eq_getElem hj])]; rfl, Box.frozen h j⟩
theorem BC.cell (h : BC w b zs gs st) (k : Nat) (hk : k < zs.length) : w.cell? ⟨b, k, none⟩ = some (.int .u8 (zs.getD k 0)) := Box.cell h k (by simpa using chipC_cell k hk)
theorem BC.guard (h : BC w b zs gs st) (hz : zs.length = 256) (k : Nat) (hk : k < gs.length) : w.cell? ⟨b, 256 + k, none⟩ = some (.bool (gs.getD k false)) := Box.cell h (256 + k) (by simpa using chipC_guard hz k hk)
theorem BC.state (h : BC w b zs gs st) (hz : zs.length = 256) (hg : gs.length = 16) : w.cell? ⟨b, 272, none⟩ = some (.int .i64 st) := Box.cell h 272 (by simpa using chipC_state hz hg)
theorem BC.frozen (h : BC w b zs gs st) (k : Nat) : w.frozen? ⟨b, k, none⟩ = false := Box.frozen h k
theorem BC.step (h : BC w b zs gs st) (hb : Below w.heap.size w w') : BC w' b zs gs st := Box.step h hb
theorem BC.setC (h : BC w b zs gs st) (k : Nat) (x : Int) (hk : k < zs.length) : BC (w.setCell ⟨b, k, none⟩ (.int .u8 x)) b (zs.set k x) gs st := by
  have := Box.set h k (.int .u8 x)
  rw [List.setIfInBounds_toArray, chipC_setCell k x hk] at this
  exact this
theorem BC.setG (h : BC w b zs gs st) (hz : zs.length = 256) (k : Nat) (x : Bool) (hk : k < gs.length) : BC (w.setCell ⟨b, 256 + k, none⟩ (.bool x)) b zs (gs.set k x) st := by
  have := Box.set h (256 + k) (.bool x)
  rw [List.setIfInBounds_toArray, chipC_setGuard hz k x hk] at this
  exact this
theorem BC.setS (h : BC w b zs gs st) (hz : zs.length = 256) (hg : gs.length = 16) (x : Int) : BC (w.setCell ⟨b, 272, none⟩ (.int .i64 x)) b zs gs x := by
  have := Box.set h 272 (.int .i64 x)
  rw [List.setIfInBounds_toArray, chipC_setState hz hg x] at this
  exact this
theorem BC.far (h : BC w b zs gs st) {p : Addr} (hp : b ≠ p.block) (u : Value) : BC (w.setCell p u) b zs gs st := Box.far h hp u
theorem BC.alloc (h : BC w b zs gs st) (o : Obj) : BC (w.alloc o) b zs gs st := Box.alloc h o
theorem BC.new (w : World) (zs : List Int) (gs : List Bool) (st : Int) : BC (w.alloc (.cells (chipC zs gs st).toArray 108)) w.heap.size zs gs st := Box.new _ _ _
end
theorem setCells_far {w : World} {b b' : Nat} {t : TypeId} {cs : Array Value} (h : Box w b t cs) (hb : b ≠ b') : ∀ (o : Nat) (vs : List Value), Box (w.setCells b' o vs) b t cs := by
  intro o vs
  induction vs generalizing w o with
  | nil => exact h
  | cons v vs ih => exact ih (h.far (p := ⟨b', o, none⟩) hb v) (o + 1)
theorem setCells_size (w : World) (b : Nat) : ∀ (o : Nat) (vs : List Value), (w.setCells b o vs).heap.size = w.heap.size := by
  intro o vs
  induction vs generalizing w o with
  | nil => rfl
  | cons v vs ih => show ((w.setCell ⟨b, o, none⟩ v).setCells b (o + 1) vs).heap.size = _; rw [ih]; simp [World.setCell]
theorem setCells_list {w : World} {b : Nat} {t : TypeId} : ∀ (vs pre : List Value) (l : List Value), Box w b t (pre ++ l).toArray → l.length = vs.length → Box (w.setCells b pre.length vs) b t (pre ++ vs).toArray := by
  intro vs
  induction vs generalizing w with
  | nil => intro pre l h hl; rw [List.length_eq_zero_iff.1 hl] at h; exact h
  | cons v vs ih =>
    intro pre l h hl
    match l, hl with
    | x :: l, hl =>
      have h2 := h.set pre.length v
      rw [List.setIfInBounds_toArray, show (pre ++ x :: l).set pre.length v = (pre ++ [v]) ++ l from by rw [List.set_append_right _ _ (Nat.le_refl _), Nat.sub_self]; simp] at h2
      have := ih (w := w.setCell ⟨b, pre.length, none⟩ v) (pre ++ [v]) l h2 (by simpa using hl)
      rw [show (pre ++ [v]).length = pre.length + 1 from by simp, show pre ++ [v] ++ vs = pre ++ v :: vs from by simp] at this
      exact this
theorem BC.put {w : World} {b : Nat} {zs zs' : List Int} {gs gs' : List Bool} {st st' : Int} (h : BC w b zs gs st) (h1 : zs'.length = zs.length) (h2 : gs'.length = gs.length) : BC (w.setCells b 0 (chipC zs' gs' st')) b zs' gs' st' := by
  have := setCells_list (chipC zs' gs' st') [] (chipC zs gs st) h (by rw [chipC_len, chipC_len, h1, h2])
  exact this
theorem BC.far' {w : World} {b b' : Nat} {zs : List Int} {gs : List Bool} {st : Int} (h : BC w b zs gs st) (hb : b ≠ b') (o : Nat) (vs : List Value) : BC (w.setCells b' o vs) b zs gs st := setCells_far h hb o vs
theorem below_setCellsC {w0 w : World} {b : Nat} (h : Below w0.heap.size w0 w) (hb : w0.heap.size ≤ b) : ∀ (o : Nat) (cs : List Value), Below w0.heap.size w0 (w.setCells b o cs) := by
  intro o cs
  induction cs generalizing w o with
  | nil => exact h
  | cons v vs ih => exact ih (h.setCell (p := ⟨b, o, none⟩) hb v) (o + 1)
theorem results_cellC {P : Program} {fn : Func} {tmps : Array Value} {w : World} {a : Nat} {t : TypeId} {p : Addr} {v : Value} (h : fn.results = #[.cell a t]) (hp : tmps.getD a undef = .pointer (some p)) (hv : (loadVar t p).run P w = .ok v w) : (results fn tmps).run P w = .ok v w := by
  unfold results
  rw [h]
  simp only [List.mapM_toArray, List.mapM_cons, List.mapM_nil, hp]
  simp [asAddr, hv]

def zZ : List Int := List.replicate 256 0
def zG : List Bool := List.replicate 16 false
theorem zZ_len : zZ.length = 256 := List.length_replicate
theorem zG_len : zG.length = 16 := List.length_replicate
def zC : List Value := chipC zZ zG 0
theorem chipC_273 {zs : List Int} {gs : List Bool} (hz : zs.length = 256) (hg : gs.length = 16) (st : Int) : (chipC zs gs st).length = 273 := by rw [chipC_len, hz, hg]
theorem BC.there273 {w : World} {b : Nat} {zs : List Int} {gs : List Bool} {st : Int} (h : BC w b zs gs st) (hz : zs.length = 256) (hg : gs.length = 16) : w.there b 0 273 := by
  have := h.there
  rwa [chipC_273 hz hg] at this
theorem BC.newZ (w : World) : BC (w.alloc (.cells zC.toArray 108)) w.heap.size zZ zG 0 := Box.new _ _ _
set_option maxRecDepth 100000 in
theorem infoC : (Try.prog.info? 108).map (fun i => (i.zero, i.size)) = some (some (.agg zC.toArray), 273) := by kernel_rfl
set_option maxRecDepth 100000 in
theorem infoCx : ∃ i : TypeInfo, Try.prog.info? 108 = some i ∧ i.zero = some (.agg zC.toArray) := by
  obtain ⟨i, hi, hzz⟩ := Option.map_eq_some_iff.1 infoC
  simp only [Prod.mk.injEq] at hzz
  exact ⟨i, hi, hzz.1⟩
set_option maxRecDepth 100000 in
theorem sizeC (zs : List Int) (gs : List Bool) (st : Int) (hz : zs.length = 256) (hg : gs.length = 16) : (Try.prog.info? 108).map (·.size) = some (chipC zs gs st).length := by
  obtain ⟨i, hi, hzz⟩ := Option.map_eq_some_iff.1 infoC
  simp only [Prod.mk.injEq] at hzz
  rw [hi, chipC_len, hz, hg, Option.map_some, hzz.2]
theorem wpList_alloc_big {P : Program} {ops : Array Oper} {rest : List Oper} {op : Oper} {a : Act} {w : World} {Q : Exit → Act → World → Prop} (hgd : op.guard = none) (t : TypeId) (ho : op.op = .alloc t) (C : Array Value)
    (hz : ∃ i : TypeInfo, P.info? t = some i ∧ i.zero = some (.agg C)) (h : wpList P ops Q rest (a.put op.dst (.pointer (some ⟨w.heap.size, 0, none⟩))) (w.alloc (.cells C t))) : wpList P ops Q (op :: rest) a w :=
  wpList_plain hgd fun _ hK => by
    obtain ⟨i, hi, hz⟩ := hz
    have hr : (Instr.alloc t true (.tuple #[])).run P w = .ok (.pointer (some ⟨w.heap.size, 0, none⟩)) (w.alloc (.cells C t)) := by
      simp [Instr.alloc, zeroValue, typeInfo, hi, hz, newVar, newRow, newObj, Value.cells]
      rfl
    unfold Oper.wp execOp
    simp only [ho, Sem.run_bind, Sem.run_pure, Result.andThen_ok, hr]
    exact hK _ _ h
theorem wpList_alloc_at {P : Program} {ops : Array Oper} {rest : List Oper} {op : Oper} {a : Act} {w : World} {Q : Exit → Act → World → Prop} (hgd : op.guard = none) (t : TypeId) (ho : op.op = .alloc t) (C : Array Value)
    (hz : ∃ i : TypeInfo, P.info? t = some i ∧ i.zero = some (.agg C)) (b : Nat) (hb : w.heap.size = b) (h : wpList P ops Q rest (a.put op.dst (.pointer (some ⟨b, 0, none⟩))) (w.alloc (.cells C t))) : wpList P ops Q (op :: rest) a w :=
  wpList_alloc_big hgd t ho C hz (by rw [hb]; exact h)
end Go.Proofs.Ytagdclbpgkilgaa

/- Contracts of chip.protect, chip.program, chip.erase. -/
namespace Go.Proofs.Ytagdclbpgkilgaa
open Go.RowKit

/-- The call hands back this chip. -/
def GivesChip (zs : List Int) (gs : List Bool) (st : Int) (w : World) (e : Ending) (w' : World) : Prop := e = .returned (.agg (chipC zs gs st).toArray) ∧ Below w.heap.size w w'

/-- What the last two operations want, 'return c' of a chip in block b, by way of block b' : the load's range, the store's room, the value read back. -/
structure Hands (W : World) (b b' : Nat) (cs : List Value) : Prop where
  range : W.rangeAt b 0 cs
  room : W.there b' 0 cs.toArray.size
  one : cs.toArray.all (·.oneCell') = true
  size : (Try.prog.info? 108).map (·.size) = some cs.length
  size' : (Try.prog.info? 108).map (·.size) = some cs.toArray.size
  back : (loadVar 108 ⟨b', 0, none⟩).run Try.prog (W.setCells b' 0 cs) = .ok (.agg cs.toArray) (W.setCells b' 0 cs)
set_option maxRecDepth 100000 in
theorem BC.hands {W : World} {b b' : Nat} {zs zs' : List Int} {gs gs' : List Bool} {st st' : Int} (h : BC W b zs gs st) (h' : BC W b' zs' gs' st') (hz : zs.length = 256) (hg : gs.length = 16) (hz' : zs'.length = 256) (hg' : gs'.length = 16) : Hands W b b' (chipC zs gs st) :=
  ⟨h.range, by rw [List.size_toArray, chipC_273 hz hg]; exact h'.there273 hz' hg', all_oneCell_toArray (chipC_one zs gs st), sizeC zs gs st hz hg, by rw [List.size_toArray]; exact sizeC zs gs st hz hg,
    run_loadVar_mid (P := Try.prog) _ b' 0 108 _ _ (h'.put (zs' := zs) (gs' := gs) (st' := st) (hz.trans hz'.symm) (hg.trans hg'.symm)).range Try.underlying108 rfl (sizeC zs gs st hz hg)⟩
theorem two_chips (w : World) (zs : List Int) (gs : List Bool) (st : Int) : BC ((w.alloc (.cells (chipC zs gs st).toArray 108)).alloc (.cells zC.toArray 108)) w.heap.size zs gs st ∧ BC ((w.alloc (.cells (chipC zs gs st).toArray 108)).alloc (.cells zC.toArray 108)) (w.heap.size + 1) zZ zG 0 ∧ Below w.heap.size w ((w.alloc (.cells (chipC zs gs st).toArray 108)).alloc (.cells zC.toArray 108)) :=
  ⟨(BC.new _ _ _ _).alloc _, by have := BC.newZ (w.alloc (.cells (chipC zs gs st).toArray 108)); rw [World.size_alloc] at this; exact this, bt (alloc_below _ _) (alloc_below _ _)⟩

set_option maxRecDepth 100000 in
set_option maxHeartbeats 1000000 in
theorem chipProtect (k : Nat) (zs : List Int) (gs : List Bool) (st : Int) (w : World) (hz : zs.length = 256) (hg : gs.length = 16) (hk : k < 16) :
    Calls Try.prog 134 #[.agg (chipC zs gs st).toArray, .int .i64 k] w (GivesChip zs (gs.set k true) st w) := by
  obtain ⟨X0, Y0, hb0⟩ := two_chips w zs gs st
  have hc := X0.guard hz k (by omega)
  have hf := X0.frozen (256 + k)
  generalize gs.getD k false = q at hc
  obtain ⟨X1, Y1, hb1⟩ := two_chips w zs (gs.set k true) st
  have HE := Lib.hid (chipC_setGuard (st := st) hz k true (show k < gs.length by omega))
  have HH := Lib.hid (X1.hands Y1 hz (by rw [List.length_set]; exact hg) zZ_len zG_len)
  have HB := Lib.hid hb1
  generalize hcs : chipC zs (gs.set k true) st = cs at HE HH HB
  have HCs := Lib.hid hcs
  obtain ⟨W1, hW1⟩ : ∃ W1, W1 = (w.alloc (.cells cs.toArray 108)).alloc (.cells zC.toArray 108) := ⟨_, rfl⟩
  rw [← hW1] at HH HB
  have HW1 := Lib.hid hW1
  have hki : (k : Int) < 16 := by omega
  clear hz hg X0 Y0 X1 Y1 hb0 hb1 hcs hW1
  go_enter Try.func134, Try.ntmps134
  go_wp2_with (first
    | (with_reducible refine wpList_alloc_big rfl 108 rfl zC.toArray infoCx ?_)
    | (rw [HE.out, ← HW1.out]; with_reducible refine wpList_load_mid rfl 108 (.tmp 2) rfl w.heap.size 0 rfl cs _ HH.out.range Try.underlying108 rfl HH.out.size ?_)
    | (with_reducible refine wpList_store_mid rfl 108 (.tmp 4) (.tmp 8) rfl (w.heap.size + 1) 0 cs.toArray rfl rfl HH.out.room HH.out.size' HH.out.one ?_))
  refine bodyPost_ret (v := .agg cs.toArray) (results_cellC Try.results134 (by rfl) HH.out.back) rfl ?_
  exact ⟨by rw [HCs.out], below_setCellsC HB.out (by omega) 0 cs⟩

set_option maxRecDepth 100000 in
set_option maxHeartbeats 1000000 in
theorem chipProgram (k v : Nat) (zs : List Int) (gs : List Bool) (st : Int) (w : World) (hz : zs.length = 256) (hg : gs.length = 16) (hk : k < 256) (hv : v < 256) (hzs : ∀ z ∈ zs, 0 ≤ z ∧ z ≤ 255) :
    Calls Try.prog 132 #[.agg (chipC zs gs st).toArray, .int .i64 k, .int .u8 v] w (GivesChip (progL zs gs k v) gs st w) := by
  obtain ⟨X0, Y0, hb0⟩ := two_chips w zs gs st
  have hc := X0.cell k (by omega)
  have hf := X0.frozen k
  have hd := X0.guard hz (k / 16) (by omega)
  obtain ⟨z, hzk, hz2⟩ := at256 hzs k (by omega)
  obtain ⟨x, hx⟩ : ∃ x, bits .and .u8 (z : Int) (v : Int) = x := ⟨_, rfl⟩
  have HP : Hid (∀ q, gs.getD (k / 16) false = q → progL zs gs k v = if q then zs else zs.set k x) := Lib.hid (by
    intro q hq
    unfold progL
    rw [hq, hzk, ← hx, and_u8 z v hz2 hv]
    rfl)
  rw [hzk] at hc
  have hkd : ((k / 16 : Nat) : Int) < 16 := by omega
  have hki : (k : Int) < 256 := by omega
  have HB := Lib.hid (fun W => blockOf k (by omega) W)
  have HP2 := Lib.hid (HP.out _ rfl)
  generalize gs.getD (k / 16) false = q at hd HP2
  cases q
  · obtain ⟨X1, Y1, hb1⟩ := two_chips w (zs.set k x) gs st
    have HE := Lib.hid (chipC_setCell (gs := gs) (st := st) k x (show k < zs.length by omega))
    have HH := Lib.hid (X1.hands Y1 (by rw [List.length_set]; exact hz) hg zZ_len zG_len)
    have HBl := Lib.hid hb1
    have HR : Hid (progL zs gs k v = zs.set k x) := Lib.hid (by rw [HP2.out]; rfl)
    rw [← HR.out] at HE HH HBl
    generalize hcs : chipC (progL zs gs k v) gs st = cs at HE HH HBl
    have HCs := Lib.hid hcs
    obtain ⟨W1, hW1⟩ : ∃ W1, W1 = (w.alloc (.cells cs.toArray 108)).alloc (.cells zC.toArray 108) := ⟨_, rfl⟩
    rw [← hW1] at HH HBl
    have HW1 := Lib.hid hW1
    clear hz hg X0 Y0 X1 Y1 hb0 hb1 hcs hW1 HP HP2 HR hzs hzk
    go_enter Try.func132, Try.ntmps132
    go_wp2_with (first
      | (with_reducible refine wpList_alloc_big rfl 108 rfl zC.toArray infoCx ?_)
      | (go_at_call 135; refine (HB.out _).mono ?_; rintro e w' ⟨rfl, rfl⟩)
      | (rw [HE.out, ← HW1.out]; with_reducible refine wpList_load_mid rfl 108 (.tmp 3) rfl w.heap.size 0 rfl cs _ HH.out.range Try.underlying108 rfl HH.out.size ?_)
      | (with_reducible refine wpList_store_mid rfl 108 (.tmp 6) (.tmp 21) rfl (w.heap.size + 1) 0 cs.toArray rfl rfl HH.out.room HH.out.size' HH.out.one ?_))
    refine bodyPost_ret (v := .agg cs.toArray) (results_cellC Try.results132 (by rfl) HH.out.back) rfl ?_
    exact ⟨by rw [HCs.out], below_setCellsC HBl.out (by omega) 0 cs⟩
  · have HH := Lib.hid (X0.hands Y0 hz hg zZ_len zG_len)
    have HBl := Lib.hid hb0
    have HR : Hid (progL zs gs k v = zs) := Lib.hid (by rw [HP2.out]; rfl)
    generalize hcs : chipC zs gs st = cs at HH HBl hc hf hd
    have HCs : Hid (chipC (progL zs gs k v) gs st = cs) := Lib.hid (by rw [HR.out]; exact hcs)
    obtain ⟨W1, hW1⟩ : ∃ W1, W1 = (w.alloc (.cells cs.toArray 108)).alloc (.cells zC.toArray 108) := ⟨_, rfl⟩
    rw [← hW1] at HH HBl
    have HW1 := Lib.hid hW1
    clear hz hg X0 Y0 hb0 hcs hW1 HP HP2 HR hzs hzk
    go_enter Try.func132, Try.ntmps132
    go_wp2_with (first
      | (with_reducible refine wpList_alloc_big rfl 108 rfl zC.toArray infoCx ?_)
      | (go_at_call 135; refine (HB.out _).mono ?_; rintro e w' ⟨rfl, rfl⟩)
      | (rw [← HW1.out]; with_reducible refine wpList_load_mid rfl 108 (.tmp 3) rfl w.heap.size 0 rfl cs _ HH.out.range Try.underlying108 rfl HH.out.size ?_)
      | (with_reducible refine wpList_store_mid rfl 108 (.tmp 6) (.tmp 21) rfl (w.heap.size + 1) 0 cs.toArray rfl rfl HH.out.room HH.out.size' HH.out.one ?_))
    refine bodyPost_ret (v := .agg cs.toArray) (results_cellC Try.results132 (by rfl) HH.out.back) rfl ?_
    exact ⟨by rw [HCs.out], below_setCellsC HBl.out (by omega) 0 cs⟩

set_option maxRecDepth 100000 in
set_option maxHeartbeats 2000000 in
theorem chipErase (k : Nat) (zs : List Int) (gs : List Bool) (st : Int) (w : World) (hz : zs.length = 256) (hg : gs.length = 16) (hk : k < 16) :
    Calls Try.prog 137 #[.agg (chipC zs gs st).toArray, .int .i64 k] w (GivesChip (eraseL zs gs k) gs st w) := by
  obtain ⟨X0, Y0, hb0⟩ := two_chips w zs gs st
  have hd := X0.guard hz k (by omega)
  have HP : Hid (∀ q, gs.getD k false = q → eraseL zs gs k = if q then zs else fillR zs (k * 16) (k * 16 + 16)) := Lib.hid (by intro q hq; unfold eraseL; rw [hq])
  have hki : (k : Int) < 16 := by omega
  have HP2 := Lib.hid (HP.out _ rfl)
  generalize gs.getD k false = q at hd HP2
  cases q
  · have HR : Hid (eraseL zs gs k = fillR zs (k * 16) (k * 16 + 16)) := Lib.hid (by rw [HP2.out]; rfl)
    have HL := Lib.hid (And.intro hz hg)
    have HX := Lib.hid (And.intro X0 (And.intro Y0 hb0))
    clear hz hg X0 Y0 hb0 HP HP2
    go_enter Try.func137, Try.ntmps137
    go_wp2_with (first
      | (with_reducible refine wpList_alloc_big rfl 108 rfl zC.toArray infoCx ?_))
    go_loopw [11] (fun i wr => ∃ j : Nat, j ≤ 16 ∧ i = .int .i64 j ∧ Below w.heap.size w wr ∧ Hid (BC wr w.heap.size (fillR zs (k * 16) (k * 16 + j)) gs st) ∧ Hid (BC wr (w.heap.size + 1) zZ zG 0)) (fun i _ => 16 - (intOf i).toNat)
    case atStart => exact ⟨0, by omega, rfl, HX.out.2.2, Lib.hid (by rw [Nat.add_zero, fillR_none]; exact HX.out.1), Lib.hid HX.out.2.1⟩
    case round =>
      clear HX hd
      obtain ⟨j, hj, rfl, hbw, X, Y⟩ := hrel
      by_cases hlt : j < 16
      · have hc := X.out.cell (k * 16 + j) (by rw [fillR_len]; have := HL.out; omega)
        have hf := X.out.frozen (k * 16 + j)
        generalize (fillR zs (k * 16) (k * 16 + j)).getD (k * 16 + j) 0 = z at hc
        have hX := X.out.setC (k * 16 + j) 255 (by rw [fillR_len]; have := HL.out; omega)
        rw [fillR_next _ _ _ (by omega) (by have := HL.out; omega)] at hX
        have HXn := Lib.hid hX
        have HYn := Lib.hid (Y.out.far (p := ⟨w.heap.size, k * 16 + j, none⟩) (by show w.heap.size + 1 ≠ w.heap.size; omega) (.int .u8 255))
        have hb' : Below w.heap.size w (wr.setCell ⟨w.heap.size, k * 16 + j, none⟩ (.int .u8 255)) := hbw.setCell (p := ⟨w.heap.size, k * 16 + j, none⟩) (Nat.le_refl _) _
        have hi : (j : Int) < 16 := by omega
        have hidx : (k : Int) * 16 + (j : Int) < 256 := by omega
        clear hX X Y hbw
        go_wp2
        go_roundw
        case rel => exact ⟨j + 1, by omega, by go_num, hb', HXn, HYn⟩
        case measure => simp [intOf]; omega
      · obtain rfl : j = 16 := by omega
        have HH := Lib.hid (X.out.hands Y.out (by rw [fillR_len]; exact HL.out.1) HL.out.2 zZ_len zG_len)
        rw [← HR.out] at HH
        generalize hcs : chipC (eraseL zs gs k) gs st = cs at HH
        have HCs := Lib.hid hcs
        clear hcs X Y
        go_wp2_with (first
          | (with_reducible refine wpList_load_mid rfl 108 (.tmp 2) rfl w.heap.size 0 rfl cs _ HH.out.range Try.underlying108 rfl HH.out.size ?_)
          | (with_reducible refine wpList_store_mid rfl 108 (.tmp 4) (.tmp 21) rfl (w.heap.size + 1) 0 cs.toArray rfl rfl HH.out.room HH.out.size' HH.out.one ?_))
        refine bodyPost_ret (v := .agg cs.toArray) (results_cellC Try.results137 (by rfl) HH.out.back) rfl ?_
        exact ⟨by rw [HCs.out], below_setCellsC hbw (by omega) 0 cs⟩
  · have HH := Lib.hid (X0.hands Y0 hz hg zZ_len zG_len)
    have HBl := Lib.hid hb0
    have HR : Hid (eraseL zs gs k = zs) := Lib.hid (by rw [HP2.out]; rfl)
    generalize hcs : chipC zs gs st = cs at HH HBl hd
    have HCs : Hid (chipC (eraseL zs gs k) gs st = cs) := Lib.hid (by rw [HR.out]; exact hcs)
    obtain ⟨W1, hW1⟩ : ∃ W1, W1 = (w.alloc (.cells cs.toArray 108)).alloc (.cells zC.toArray 108) := ⟨_, rfl⟩
    rw [← hW1] at HH HBl
    have HW1 := Lib.hid hW1
    clear hz hg X0 Y0 hb0 hcs hW1 HP HP2 HR
    go_enter Try.func137, Try.ntmps137
    go_wp2_with (first
      | (with_reducible refine wpList_alloc_big rfl 108 rfl zC.toArray infoCx ?_)
      | (rw [← HW1.out]; with_reducible refine wpList_load_mid rfl 108 (.tmp 2) rfl w.heap.size 0 rfl cs _ HH.out.range Try.underlying108 rfl HH.out.size ?_)
      | (with_reducible refine wpList_store_mid rfl 108 (.tmp 4) (.tmp 10) rfl (w.heap.size + 1) 0 cs.toArray rfl rfl HH.out.room HH.out.size' HH.out.one ?_))
    refine bodyPost_ret (v := .agg cs.toArray) (results_cellC Try.results137 (by rfl) HH.out.back) rfl ?_
    exact ⟨by rw [HCs.out], below_setCellsC HBl.out (by omega) 0 cs⟩
end Go.Proofs.Ytagdclbpgkilgaa

/- The contract of chipOf: a flash as a chip. -/
namespace Go.Proofs.Ytagdclbpgkilgaa
open Go.RowKit

/-- The first j of zs, then zeros. -/
def takeZ (zs : List Int) (j : Nat) : List Int := (List.range 256).map fun i => if i < j then zs.getD i 0 else 0
theorem takeZ_len (zs : List Int) (j : Nat) : (takeZ zs j).length = 256 := by simp [takeZ]
theorem takeZ_at (zs : List Int) (j i : Nat) (h : i < 256) : (takeZ zs j).getD i 0 = if i < j then zs.getD i 0 else 0 := by
  unfold takeZ
  rw [List.getD_eq_getElem?_getD, List.getElem?_map, List.getElem?_range h]
  rfl
theorem takeZ_zero (zs : List Int) : takeZ zs 0 = zZ := by
  apply ext_getD 0 (by rw [takeZ_len, zZ_len])
  intro i hi
  rw [takeZ_len] at hi
  rw [takeZ_at _ _ _ hi, if_neg (by omega)]
  unfold zZ
  rw [List.getD_eq_getElem?_getD, List.getElem?_replicate, if_pos hi]
  rfl
theorem takeZ_all (zs : List Int) (h : zs.length = 256) : takeZ zs 256 = zs := by
  apply ext_getD 0 (by rw [takeZ_len, h])
  intro i hi
  rw [takeZ_len] at hi
  rw [takeZ_at _ _ _ hi, if_pos hi]
theorem takeZ_next (zs : List Int) (j : Nat) (hj : j < 256) : (takeZ zs j).set j (zs.getD j 0) = takeZ zs (j + 1) := by
  apply ext_getD 0 (by simp [takeZ_len])
  intro i hi
  have hi' : i < 256 := by simpa [takeZ_len] using hi
  rw [takeZ_at _ _ _ hi']
  by_cases e : i = j
  · subst e
    rw [List.getD_eq_getElem?_getD, List.getElem?_set_self (by rw [takeZ_len]; exact hj), if_pos (by omega)]
    rfl
  · rw [List.getD_eq_getElem?_getD, List.getElem?_set_ne (fun q => e q.symm), ← List.getD_eq_getElem?_getD, takeZ_at _ _ _ hi']
    by_cases q : i < j
    · rw [if_pos q, if_pos (by omega)]
    · rw [if_neg q, if_neg (by omega)]
theorem splice_guard (zs : List Int) (gs gs' : List Bool) (st : Int) (hz : zs.length = 256) (hg : gs.length = gs'.length) : splice (chipC zs gs st) 256 (cellsB gs') = chipC zs gs' st := by
  unfold splice chipC
  rw [List.take_append_of_le_length (by simp [hz]), List.take_of_length_le (by simp [hz]), List.drop_append, List.drop_of_length_le (by simp [hz]), cellsB_len, List.nil_append, List.length_map, hz, show 256 + gs'.length - 256 = gs'.length by omega, List.drop_append, List.drop_of_length_le (by simp [hg]), List.nil_append, List.length_map, hg, Nat.sub_self]
  rfl
set_option maxRecDepth 100000 in
theorem szBool : (Try.prog.info? 4).map (·.size) = some 1 := by kernel_rfl
theorem zC_len : zC.length = 273 := chipC_273 zZ_len zG_len 0
theorem zC_set (st : Int) : zC.set 272 (.int .i64 st) = chipC zZ zG st := chipC_setState zZ_len zG_len st
set_option maxRecDepth 100000 in
theorem buildChip (st : Int) (w : World) : (Instr.build 108 #[(2, .int .i64 st)]).run Try.prog w = .ok (.agg (chipC zZ zG st).toArray) w := by
  obtain ⟨i, hi, hz⟩ := infoCx
  have hzv : (zeroValue 108).run Try.prog w = .ok (.agg zC.toArray) w := by simp [zeroValue, typeInfo, hi, hz]
  have hf : Instr.fill (fun x => ([(0, 256), (256, 16), (272, 1)] : List (Nat × Nat))[x]?) zC.toArray [(2, Value.int .i64 st)] = some (chipC zZ zG st).toArray := by
    simp [Instr.fill, Value.cells, zC_len, zC_set]
  simp [Instr.build, hzv, Value.cells, hf]
theorem wpList_build_chip {P : Program} {ops : Array Oper} {rest : List Oper} {op : Oper} {a : Act} {w : World} {Q : Exit → Act → World → Prop} {t : TypeId} (hgd : op.guard = none) (x : Operand) (v : Value) (cs : List Value) (ho : op.op = .build t #[(2, x)]) (hx : a.eval x = v)
    (hr : (Instr.build t #[(2, v)]).run P w = .ok (.agg cs.toArray) w)
    (h : wpList P ops Q rest (a.put op.dst (.agg cs.toArray)) w) : wpList P ops Q (op :: rest) a w :=
  wpList_plain hgd fun _ hK => by
    unfold Oper.wp execOp
    simp only [ho, Sem.run_bind, Sem.run_pure, Result.andThen_ok, List.map_toArray, List.map_cons, List.map_nil, hx, hr]
    exact hK _ _ h

set_option maxRecDepth 100000 in
set_option maxHeartbeats 4000000 in
theorem chipOf (A C : Option Addr) (n c m d : Nat) (st : Int) (zs : List Int) (gs : List Bool) (w : World) (hl : zs.length = n) (hm : gs.length = m) (hn : n = 256) (hmm : m = 16) (hz : ∀ z ∈ zs, 0 ≤ z ∧ z ≤ 255) (h : IntL w A zs) (g : BoolL w C gs) :
    Calls Try.prog 74 #[.agg #[.slice A n c, .slice C m d, .int .i64 st]] w (GivesChip zs gs st w) := by
  obtain ⟨W2, hW2⟩ : ∃ W2, W2 = (((w.alloc (.cells #[.slice A n c, .slice C m d, .int .i64 st] 26)).alloc (.cells zC.toArray 108)).alloc (.cells zC.toArray 108)) := ⟨_, rfl⟩
  have hb2 : Below w.heap.size w W2 := by rw [hW2]; exact bt (bt (alloc_below _ _) (alloc_below _ _)) (alloc_below _ _)
  have X2 : Box W2 w.heap.size 26 #[.slice A n c, .slice C m d, .int .i64 st] := by rw [hW2]; exact ((Box.new _ _ _).alloc _).alloc _
  have Y2 : BC W2 (w.heap.size + 1) zZ zG 0 := by rw [hW2]; have := (BC.newZ (w.alloc (.cells #[.slice A n c, .slice C m d, .int .i64 st] 26))).alloc (.cells zC.toArray 108); rw [World.size_alloc] at this; exact this
  have Z2 : BC W2 (w.heap.size + 1 + 1) zZ zG 0 := by rw [hW2]; have := BC.newZ ((w.alloc (.cells #[.slice A n c, .slice C m d, .int .i64 st] 26)).alloc (.cells zC.toArray 108)); rw [World.size_alloc, World.size_alloc] at this; exact this
  have HT : Hid (W2.there (w.heap.size + 1 + 1) 0 (chipC zZ zG st).toArray.size) := Lib.hid ((show (chipC zZ zG st).toArray.size = 273 from List.size_toArray.trans (chipC_273 zZ_len zG_len st)) ▸ Z2.there273 zZ_len zG_len)
  have HS : Hid ((Try.prog.info? 108).map (·.size) = some (chipC zZ zG st).toArray.size) := Lib.hid (by rw [List.size_toArray]; exact sizeC zZ zG st zZ_len zG_len)
  have HO := Lib.hid (all_oneCell_toArray (chipC_one zZ zG st))
  have Z3 := Lib.hid (Z2.put (zs' := zZ) (gs' := zG) (st' := st) rfl rfl)
  have X3 := Lib.hid (setCells_far X2 (show w.heap.size ≠ w.heap.size + 1 + 1 by omega) 0 (chipC zZ zG st))
  have Y3 := Lib.hid (Y2.far' (show w.heap.size + 1 ≠ w.heap.size + 1 + 1 by omega) 0 (chipC zZ zG st))
  have hb3 := below_setCellsC hb2 (show w.heap.size ≤ w.heap.size + 1 + 1 by omega) 0 (chipC zZ zG st)
  have x0 := X2.cell 0 rfl
  have x2 := X2.cell 2 rfl
  have x0' := X3.out.cell 0 rfl
  have HL := Lib.hid (And.intro (hl.trans hn) (hm.trans hmm))
  have HZ := Lib.hid hz
  have H := Lib.hid (And.intro h g)
  have HSb := Lib.hid (fun W (hb : Below w.heap.size w W) => (g.below hb).src (by omega))
  have HW2 := Lib.hid hW2
  have HBd := Lib.hid (fun W => buildChip st W)
  have HIn := Lib.hid infoCx
  generalize hzc : zC.toArray = zc at HW2 HIn
  generalize hcz : chipC zZ zG st = cz at HT HS HO Z3 X3 Y3 hb3 x0' HBd
  have HCz := Lib.hid hcz
  rw [HW2.out] at HT x0 x2 x0'
  subst hn hmm
  clear hl hm hz h g X2 Y2 Z2 hW2 hzc hcz
  go_enter Try.func74, Try.ntmps74
  go_wp2_with (first
    | (with_reducible refine wpList_alloc_at rfl 108 rfl zc HIn.out (w.heap.size + 1 + 1) ((World.size_alloc _ _).trans (congrArg (· + 1) (World.size_alloc _ _))) ?_)
    | (with_reducible refine wpList_alloc_at rfl 108 rfl zc HIn.out (w.heap.size + 1) (World.size_alloc _ _) ?_)
    | (with_reducible refine wpList_build_chip rfl (.tmp 7) (.int .i64 st) cz rfl rfl (HBd.out _) ?_)
    | (with_reducible refine wpList_store_mid rfl 108 (.tmp 3) (.tmp 8) rfl (w.heap.size + 1 + 1) 0 cz.toArray rfl rfl HT.out HS.out HO.out ?_))
  rw [← HW2.out]
  have x0s : Hid True := Lib.hid trivial
  clear x0 x2 x0' HT HS HO HBd HIn x0s
  generalize W2.setCells (w.heap.size + 1 + 1) 0 cz = W3 at Z3 X3 Y3 hb3 ⊢
  clear hb2 HW2 HCz
  go_loopw [12] (fun i wr => ∃ j : Nat, j ≤ 256 ∧ i = .int .i64 j ∧ Below w.heap.size w wr ∧ Hid (Box wr w.heap.size 26 #[.slice A 256 c, .slice C 16 d, .int .i64 st]) ∧ Hid (BC wr (w.heap.size + 1) zZ zG 0) ∧ Hid (BC wr (w.heap.size + 1 + 1) (takeZ zs j) zG st)) (fun i _ => 256 - (intOf i).toNat)
  case atStart => exact ⟨0, by omega, rfl, hb3, X3, Y3, Lib.hid (by rw [takeZ_zero]; exact Z3.out)⟩
  case round =>
    clear hb3 X3 Y3 Z3
    obtain ⟨j, hj, rfl, hbw, X, Y, Z⟩ := hrel
    by_cases hlt : j < 256
    · obtain ⟨ab, aoff, rfl, hc⟩ := (H.out.1.below hbw) j (by rw [HL.out.1]; exact hlt)
      have hx := HZ.out (zs.getD j 0) (by rw [List.getD_eq_getElem?_getD, List.getElem?_eq_getElem (by rw [HL.out.1]; exact hlt)]; exact List.getElem_mem _)
      have hZ := Z.out.setC j (zs.getD j 0) (by rw [takeZ_len]; exact hlt)
      rw [takeZ_next zs j hlt] at hZ
      have hd := Z.out.cell j (by rw [takeZ_len]; exact hlt)
      generalize (takeZ zs j).getD j 0 = y at hd
      generalize zs.getD j 0 = x at hc hx hZ
      have hf := Z.out.frozen j
      have HZn := Lib.hid hZ
      have HXn := Lib.hid (X.out.far (p := ⟨w.heap.size + 1 + 1, j, none⟩) (by show w.heap.size ≠ w.heap.size + 1 + 1; omega) (.int .u8 x))
      have HYn := Lib.hid (Y.out.far (p := ⟨w.heap.size + 1 + 1, j, none⟩) (by show w.heap.size + 1 ≠ w.heap.size + 1 + 1; omega) (.int .u8 x))
      have hb' : Below w.heap.size w (wr.setCell ⟨w.heap.size + 1 + 1, j, none⟩ (.int .u8 x)) := hbw.setCell (p := ⟨w.heap.size + 1 + 1, j, none⟩) (by show w.heap.size ≤ w.heap.size + 1 + 1; omega) _
      have hi : (j : Int) < 256 := by omega
      have hwr := wrap8 x hx.1 (by omega)
      have hmd : x % 256 = x := by omega
      clear hZ X Y Z hbw
      go_wp2
      go_roundw
      case rel => exact ⟨j + 1, by omega, by go_num, hb', HXn, HYn, HZn⟩
      case measure => simp [intOf]; omega
    · obtain rfl : j = 256 := by omega
      have hZ := Z.out
      rw [takeZ_all zs HL.out.1] at hZ
      have HZ3 := Lib.hid hZ
      have x1 := X.out.cell 1 rfl
      have h6 : Below (w.heap.size + 1 + 1) wr wr.drew := (Below.refl _ _).drew
      have HS1 := Lib.hid (HSb.out _ hbw.drew)
      have HCb : Hid ((cellsB gs).length = Nat.min 16 16) := Lib.hid (by rw [cellsB_len, HL.out.2]; rfl)
      have HFit : Hid (256 + (cellsB gs).length ≤ (chipC zs zG st).length) := Lib.hid (by rw [cellsB_len, HL.out.2, chipC_273 HL.out.1 zG_len]; omega)
      have HOne : Hid (∀ v ∈ cellsB gs, v.oneCell' = true) := Lib.hid (fun v hv => by unfold cellsB at hv; obtain ⟨q, _, rfl⟩ := List.mem_map.1 hv; rfl)
      have HSp := Lib.hid (splice_guard zs zG gs st HL.out.1 (zG_len.trans HL.out.2.symm))
      have HG : Hid (wr.drew.heap[w.heap.size + 1 + 1]? = some (.cells (chipC zs zG st).toArray 108 (0, 0))) := Lib.hid hZ
      generalize cellsB gs = cb at HS1 HCb HFit HOne HSp
      generalize chipC zs zG st = ca at HFit HSp HG
      clear hZ Z
      have HK : Hid (∀ W', Below (w.heap.size + 1 + 1) wr W' → W'.cell? ⟨w.heap.size, 1, none⟩ = some (.slice C 16 d)) := Lib.hid (fun W' hb => (X.out.below hb (by omega)).cell 1 rfl)
      have HY : Hid (∀ W', Below (w.heap.size + 1 + 1) wr W' → BC W' (w.heap.size + 1) zZ zG 0) := Lib.hid (fun W' hb => Box.below Y.out hb (by omega))
      have HBw := Lib.hid hbw
      clear X Y x1 hbw
      go_wp2
      go_region_held3 (fun W => W.cell? ⟨w.heap.size, 1, none⟩ = some (.slice C 16 d))
        (first | exact HK.out _ h6 | exact HK.out _ hb2)
        (first | (refine step_copy_splice rfl (.tmp 24) (.tmp 26) 24 24 rfl 4 Try.underlying24 szBool _ _ 16 16 16 d rfl rfl (w.heap.size + 1 + 1) 256 ca 108 HG.out cb HCb.out (fun _ => ⟨rfl, HS1.out⟩) HFit.out HOne.out (w.heap.size + 1 + 1) wr h6 (Nat.le_refl _) ?_; intro w2 hg2 hb2))
      have hZ : BC w2 (w.heap.size + 1 + 1) zs gs st := by have := hg2.out; rw [HSp.out] at this; exact this
      have HH := Lib.hid (hZ.hands (HY.out _ hb2) HL.out.1 HL.out.2 zZ_len zG_len)
      have hbz : Below w.heap.size w w2 := HBw.out.trans (hb2.mono (by omega))
      generalize hcs : chipC zs gs st = cs at HH
      have HCs := Lib.hid hcs
      clear hcs hZ HY HK HSp HG HS1 HCb HFit HOne hg2 hb2 h6
      go_wp2_with (first
        | (with_reducible refine wpList_load_mid rfl 108 (.tmp 3) rfl (w.heap.size + 1 + 1) 0 rfl cs _ HH.out.range Try.underlying108 rfl HH.out.size ?_)
        | (with_reducible refine wpList_store_mid rfl 108 (.tmp 2) (.tmp 28) rfl (w.heap.size + 1) 0 cs.toArray rfl rfl HH.out.room HH.out.size' HH.out.one ?_))
      refine bodyPost_ret (v := .agg cs.toArray) (results_cellC Try.results74 (by rfl) HH.out.back) rfl ?_
      exact ⟨by rw [HCs.out], below_setCellsC hbz (by omega) 0 cs⟩
end Go.Proofs.Ytagdclbpgkilgaa

/- The contract of chip.flash: a chip as a flash. -/
namespace Go.Proofs.Ytagdclbpgkilgaa
open Go.RowKit

/-- What the new flash's three blocks are. -/
def NewF (w : World) (zs : List Int) (gs : List Bool) (st : Int) (z : Value) (wx : World) : Prop :=
  ∃ bi bg bf, z = .pointer (some ⟨bf, 0, none⟩) ∧ Hid (w.heap.size + 1 < bi ∧ w.heap.size + 1 < bg ∧ w.heap.size + 1 < bf) ∧
    Hid (Box wx bf 26 #[.slice (some ⟨bi, 0, none⟩) 256 256, .slice (some ⟨bg, 0, none⟩) 16 16, .int .i64 st]) ∧ Hid (wx.rowIs bi 3 256 (fun _ => .int .i64 0)) ∧ Hid (wx.rowIs bg 4 16 (fun _ => .bool false)) ∧
    Hid (BC wx w.heap.size zs gs st) ∧ Hid (Box wx (w.heap.size + 1) 26 #[.slice none 0 0, .slice none 0 0, .int .i64 0]) ∧ Below w.heap.size w wx

theorem made_row {w : World} {b n : Nat} {v : Value} {t : TypeId} (h : w.heap[b]? = some (.cells (madeCells #[v] n) t (0, 0))) : w.rowIs b t n (fun _ => v) := by
  obtain ⟨cs, hc, hs, hi⟩ := World.rowIs_made w v n t
  have e : (w.alloc (.cells (madeCells #[v] n) t)).heap[w.heap.size]? = some (.cells (madeCells #[v] n) t (0, 0)) := Box.new w t (madeCells #[v] n)
  rw [e] at hc
  injection hc with hc
  injection hc with hc _
  exact ⟨cs, by rw [h, hc], hs, hi⟩
theorem three_new (W : World) (o1 o2 o3 : Obj) : (((W.alloc o1).alloc o2).alloc o3).heap[W.heap.size]? = some o1 ∧ (((W.alloc o1).alloc o2).alloc o3).heap[W.heap.size + 1]? = some o2 ∧ (((W.alloc o1).alloc o2).alloc o3).heap[W.heap.size + 1 + 1]? = some o3 := by
  refine ⟨?_, ?_, ?_⟩
  · show (((W.heap.push o1).push o2).push o3)[W.heap.size]? = some o1
    rw [Array.getElem?_push, if_neg (by simp only [Array.size_push]; omega), Array.getElem?_push, if_neg (by simp only [Array.size_push]; omega), Array.getElem?_push, if_pos rfl]
  · show (((W.heap.push o1).push o2).push o3)[W.heap.size + 1]? = some o2
    rw [Array.getElem?_push, if_neg (by simp only [Array.size_push]; omega), Array.getElem?_push, if_pos (by simp only [Array.size_push])]
  · show (((W.heap.push o1).push o2).push o3)[W.heap.size + 1 + 1]? = some o3
    rw [Array.getElem?_push, if_pos (by simp only [Array.size_push])]
theorem newF_mk {w W0 W : World} {zs : List Int} {gs : List Bool} {st : Int} (hs : W0.heap.size = w.heap.size + 1 + 1) (hX : BC W0 w.heap.size zs gs st) (hY : Box W0 (w.heap.size + 1) 26 #[.slice none 0 0, .slice none 0 0, .int .i64 0]) (hb0 : Below w.heap.size w W0) (hb : Below W0.heap.size W0 W)
    (bi bg bf : Nat) (h1 : W0.heap.size ≤ bi ∧ W0.heap.size ≤ bg ∧ W0.heap.size ≤ bf) (hi : W.heap[bi]? = some (.cells (madeCells #[.int .i64 0] 256) 3 (0, 0))) (hg : W.heap[bg]? = some (.cells (madeCells #[.bool false] 16) 4 (0, 0)))
    (hf : W.heap[bf]? = some (.cells #[.slice (some ⟨bi, 0, none⟩) 256 256, .slice (some ⟨bg, 0, none⟩) 16 16, .int .i64 st] 26 (0, 0))) : NewF w zs gs st (.pointer (some ⟨bf, 0, none⟩)) W.drew :=
  ⟨bi, bg, bf, rfl, Lib.hid (by omega), Lib.hid hf, Lib.hid (made_row hi), Lib.hid (made_row hg), Lib.hid (hX.step hb.drew), Lib.hid (hY.step hb.drew), (bt hb0 hb).drew⟩

/-- A copy as one step of a region that draws: one block turns. -/
theorem step_copy_btw {P : Program} {ops : Array Oper} {o : Oper} {a : Act} {w : World} {K : Act → World → Prop} {Q : Exit → Act → World → Prop} {E : Prop} (hgd : o.guard = none) (d s : Operand) (dT sT : TypeId)
    (ho : o.op = .call { callee := .builtin .copy, args := #[d, s], argTypes := #[dT, sT] }) (elem : TypeId) (hu : P.underlying dT = some (.slice elem)) (hsz : (P.info? elem).map (·.size) = some 1)
    (g off dLen dCap : Nat) (ad : Addr) (sLen sCap : Nat) (hd : a.eval d = .slice (some ⟨g, off, none⟩) dLen dCap) (hs : a.eval s = .slice (some ad) sLen sCap)
    (cur : List Value) (t : TypeId) (hg : w.heap[g]? = some (.cells cur.toArray t (0, 0))) (cs : List Value) (hn : cs.length = Nat.min sLen dLen)
    (hsrc : ∀ j v, cs[j]? = some v → w.cell? (ad.add j) = some v)
    (hfit : off + cs.length ≤ cur.length) (h1 : ∀ v ∈ cs, v.oneCell' = true)
    (h : ∀ w', Hid (w'.heap[g]? = some (.cells (splice cur off cs).toArray t (0, 0))) → Btw g (g + 1) w w' → K (a.put o.dst (goInt cs.length)) w') :
    if Region.wanted o (yielded ops a.tmps) = true then Oper.wp P o a w K Q else E := by
  have hw : Region.wanted o (yielded ops a.tmps) = true := by simp [Region.wanted, hgd]
  rw [if_pos hw]
  have hrun := run_copy_row (P := P) w dT sT o.type elem g off dLen dCap ad sLen sCap cur.toArray t cs hu hsz hg hn hsrc (by simpa using hfit) h1
  unfold Oper.wp
  simp [execOp, ho, resolve, invoke, builtin, hd, hs, hrun, Result.andThen]
  exact h _ (show _ = _ by simpa [splice] using setRow_heap w g _ _ t _ hg) ⟨rfl, rfl, rfl, by simp [World.setRow], fun k _ hk => setRow_other w g k _ (by omega)⟩
theorem row_heap {w : World} {b n : Nat} {t : TypeId} {f : Nat → Value} (h : w.rowIs b t n f) : ∃ cur : List Value, cur.length = n ∧ w.heap[b]? = some (.cells cur.toArray t (0, 0)) := by
  obtain ⟨cs, hc, hs, _⟩ := h
  exact ⟨cs.toList, by simpa using hs, by simpa using hc⟩
theorem splice_all {α : Type} (l m : List α) (h : l.length = m.length) : splice l 0 m = m := by
  unfold splice
  rw [List.take_zero, List.nil_append, Nat.zero_add, ← h, List.drop_length, List.append_nil]
theorem ownB_row {w : World} {lo b : Nat} {gs : List Bool} (h : w.heap[b]? = some (.cells (cellsB gs).toArray 4 (0, 0))) (hlo : lo ≤ b) : OwnB w lo w.heap.size (some ⟨b, 0, none⟩) gs := by
  have hr : w.rowIs b 4 gs.length (fun i => .bool (gs.getD i false)) := ⟨_, h, by simp [cellsB], fun i hi => by
    show _ = some (Value.bool (gs.getD i false))
    rw [List.getElem?_toArray]
    unfold cellsB
    rw [List.getElem?_map, List.getD_eq_getElem?_getD, List.getElem?_eq_getElem hi]
    rfl⟩
  exact .inr ⟨b, gs.length, _, rfl, hlo, hr.lt, Nat.le_refl _, hr, fun i _ => rfl⟩
def cellsU (zs : List Int) : List Value := zs.map fun z => Value.int .u8 z
theorem cellsU_len (zs : List Int) : (cellsU zs).length = zs.length := by simp [cellsU]
theorem cellsU_at (zs : List Int) (j : Nat) (h : j < zs.length) : (cellsU zs)[j]? = some (.int .u8 (zs.getD j 0)) := by
  unfold cellsU
  rw [List.getElem?_map, List.getD_eq_getElem?_getD, List.getElem?_eq_getElem h]
  rfl
theorem BC.rangeU {w : World} {b : Nat} {zs : List Int} {gs : List Bool} {st : Int} (h : BC w b zs gs st) : w.rangeAt b 0 (cellsU zs) := fun j v hv => by
  have hj : j < zs.length := by have := (List.getElem?_eq_some_iff.1 hv).1; rwa [cellsU_len] at this
  rw [cellsU_at zs j hj] at hv
  rw [Nat.zero_add, ← hv]
  exact h.cell j hj
theorem BC.srcG {w : World} {b : Nat} {zs : List Int} {gs : List Bool} {st : Int} (h : BC w b zs gs st) (hz : zs.length = 256) : ∀ j v, (cellsB gs)[j]? = some v → w.cell? ((⟨b, 256, none⟩ : Addr).add j) = some v := fun j v hv => by
  have hj : j < gs.length := by have := (List.getElem?_eq_some_iff.1 hv).1; rwa [cellsB_len] at this
  rw [addr_add, h.guard hz j hj, ← hv]
  unfold cellsB
  rw [List.getElem?_map, List.getD_eq_getElem?_getD, List.getElem?_eq_getElem hj]
  rfl
set_option maxRecDepth 100000 in
theorem sizeU8 : (Try.prog.info? 5).map (·.size) = some 1 := by kernel_rfl
set_option maxRecDepth 100000 in
theorem indexU (cu : List Value) (j : Nat) (hj : j < 256) (x : Int) (h : cu[j]? = some (.int .u8 x)) (w : World) : (Instr.index 105 (.agg cu.toArray) (.int .i64 (j : Int))).run Try.prog w = .ok (.int .u8 x) w := by
  obtain ⟨i, hi, hs⟩ := Option.map_eq_some_iff.1 sizeU8
  simp [Instr.index, asIntOf, hj, sizeOf, typeInfo, hi, hs, part, isAgg, h]
set_option maxRecDepth 100000 in
theorem size256 : (Try.prog.info? 105).map (·.size) = some 256 := by kernel_rfl

set_option maxRecDepth 100000 in
set_option maxHeartbeats 4000000 in
theorem chipFlash (zs : List Int) (gs : List Bool) (st : Int) (w : World) (hz : zs.length = 256) (hg : gs.length = 16) (hzs : ∀ z ∈ zs, 0 ≤ z ∧ z ≤ 255) :
    Calls Try.prog 78 #[.agg (chipC zs gs st).toArray] w (GivesFlash zs gs st w) := by
  obtain ⟨W0, hW0⟩ : ∃ W0, W0 = ((w.alloc (.cells (chipC zs gs st).toArray 108)).alloc (.cells #[.slice none 0 0, .slice none 0 0, .int .i64 0] 26)) := ⟨_, rfl⟩
  have hb0 : Below w.heap.size w W0 := by rw [hW0]; exact bt (alloc_below _ _) (alloc_below _ _)
  have X0 : BC W0 w.heap.size zs gs st := by rw [hW0]; exact (BC.new _ _ _ _).alloc _
  have Y0 : Box W0 (w.heap.size + 1) 26 #[.slice none 0 0, .slice none 0 0, .int .i64 0] := by rw [hW0]; simpa using Box.new (w.alloc (.cells (chipC zs gs st).toArray 108)) 26 #[.slice none 0 0, .slice none 0 0, .int .i64 0]
  have hs0 : W0.heap.size = w.heap.size + 1 + 1 := by rw [hW0]; simp
  have HK : Hid (∀ W', Below W0.heap.size W0 W' → W'.cell? ⟨w.heap.size, 272, none⟩ = some (.int .i64 st)) := Lib.hid (fun W' hb => (X0.step hb).state hz hg)
  have HX := Lib.hid (And.intro X0 Y0)
  have HL := Lib.hid (And.intro hz hg)
  have HZs := Lib.hid hzs
  have HS0 := Lib.hid hs0
  have HW0 := Lib.hid hW0
  have hmkI : ∀ W : World, (Instr.makeSlice 23 (.int .i64 256) (.int .i64 256)).run Try.prog W = .ok (.slice (some ⟨W.heap.size, 0, none⟩) 256 256) (W.alloc (.cells (madeCells #[.int .i64 0] 256) 3)) := fun W => run_make_row' (P := Try.prog) 23 3 (.int .i64 0) 8 Try.underlying23 infoI rfl .i64 .i64 256 (by omega) (by omega) W
  have hmkB : ∀ W : World, (Instr.makeSlice 24 (.int .i64 16) (.int .i64 16)).run Try.prog W = .ok (.slice (some ⟨W.heap.size, 0, none⟩) 16 16) (W.alloc (.cells (madeCells #[.bool false] 16) 4)) := fun W => run_make_row' (P := Try.prog) 24 4 (.bool false) 1 Try.underlying24 infoB rfl .i64 .i64 16 (by omega) (by omega) W
  generalize hcs : chipC zs gs st = cs at HW0
  have HCs := Lib.hid hcs
  clear hz hg hzs X0 Y0 hs0 hW0 hcs
  have h6 : Below W0.heap.size W0 W0.drew := (Below.refl _ _).drew
  go_enter Try.func78, Try.ntmps78
  go_wp2
  rw [← HW0.out]
  go_cut [3] (fun z wx => NewF w zs gs st z wx)
  case first =>
    go_region_held3 (fun W => W.cell? ⟨w.heap.size, 272, none⟩ = some (.int .i64 st))
      (first | exact HK.out _ h6 | exact HK.out _ (bt h6 (alloc_below _ _)) | exact HK.out _ (bt (bt h6 (alloc_below _ _)) (alloc_below _ _)) | exact HK.out _ (bt (bt (bt h6 (alloc_below _ _)) (alloc_below _ _)) (alloc_below _ _)))
      (fail)
    all_goals (go_wp2_with fail; go_meet)
    all_goals (
      obtain ⟨t1, t2, t3⟩ := three_new W0 _ _ _
      first
      | exact newF_mk HS0.out HX.out.1 HX.out.2 hb0 (bt (bt (alloc_below _ _) (alloc_below _ _)) (alloc_below _ _)) _ _ _ (by omega) t1 t2 t3
      | exact newF_mk HS0.out HX.out.1 HX.out.2 hb0 (bt (bt (alloc_below _ _) (alloc_below _ _)) (alloc_below _ _)) _ _ _ (by omega) t1 t3 t2
      | exact newF_mk HS0.out HX.out.1 HX.out.2 hb0 (bt (bt (alloc_below _ _) (alloc_below _ _)) (alloc_below _ _)) _ _ _ (by omega) t2 t1 t3
      | exact newF_mk HS0.out HX.out.1 HX.out.2 hb0 (bt (bt (alloc_below _ _) (alloc_below _ _)) (alloc_below _ _)) _ _ _ (by omega) t3 t1 t2
      | exact newF_mk HS0.out HX.out.1 HX.out.2 hb0 (bt (bt (alloc_below _ _) (alloc_below _ _)) (alloc_below _ _)) _ _ _ (by omega) t2 t3 t1
      | exact newF_mk HS0.out HX.out.1 HX.out.2 hb0 (bt (bt (alloc_below _ _) (alloc_below _ _)) (alloc_below _ _)) _ _ _ (by omega) t3 t2 t1)
  case rest =>
    obtain ⟨bi, bg, bf, rfl, HB, F, I, G, X, Y, hbz⟩ := hcut
    clear hmkI hmkB HK h6 hb0 HX HS0 HW0
    obtain ⟨W1, hW1⟩ : ∃ W1, W1 = wc := ⟨_, rfl⟩
    rw [← hW1] at F I G X Y hbz ⊢
    clear hW1 wc
    have HR := Lib.hid X.out.rangeU
    have HSz : Hid ((Try.prog.info? 105).map (·.size) = some (cellsU zs).length) := Lib.hid (by rw [cellsU_len, HL.out.1]; exact size256)
    have HU := Lib.hid (fun j (hj : j < 256) => cellsU_at zs j (by rw [HL.out.1]; exact hj))
    have HUl : Hid ((cellsU zs).length = 256) := Lib.hid (by rw [cellsU_len]; exact HL.out.1)
    generalize cellsU zs = cu at HR HSz HU HUl
    go_wp2_with (first
      | (with_reducible refine wpList_load_mid rfl 105 (.tmp 11) rfl w.heap.size 0 rfl cu _ HR.out Try.underlying105 rfl HSz.out ?_))
    go_loopw [13] (fun i wr => ∃ j : Nat, j ≤ 256 ∧ i = .int .i64 j ∧ Below w.heap.size w wr ∧ Hid (Box wr bf 26 #[.slice (some ⟨bi, 0, none⟩) 256 256, .slice (some ⟨bg, 0, none⟩) 16 16, .int .i64 st]) ∧ Hid (wr.rowIs bi 3 256 (fun i => if i < j then .int .i64 (zs.getD i 0) else .int .i64 0)) ∧ Hid (wr.rowIs bg 4 16 (fun _ => .bool false)) ∧ Hid (BC wr w.heap.size zs gs st) ∧ Hid (Box wr (w.heap.size + 1) 26 #[.slice none 0 0, .slice none 0 0, .int .i64 0])) (fun i _ => 256 - (intOf i).toNat)
    case atStart => exact ⟨0, by omega, rfl, hbz, F, Lib.hid (I.out.congr (fun i _ => by simp)), G, X, Y⟩
    case round =>
      clear hbz F I G X Y
      obtain ⟨j, hj, rfl, hbw, F, I, G, X, Y⟩ := hrel
      by_cases hlt : j < 256
      · have hcu := HU.out j hlt
        have hcd := I.out.cell hlt
        simp only [Nat.lt_irrefl, if_false] at hcd
        have hfr := I.out.frozen j
        have HI := Lib.hid (I.out.set j (.int .i64 (zs.getD j 0)))
        have HF := Lib.hid (F.out.other I.out (by decide) j (.int .i64 (zs.getD j 0)))
        have HY := Lib.hid (Y.out.other I.out (by decide) j (.int .i64 (zs.getD j 0)))
        have HXn := Lib.hid (Box.other X.out I.out (by decide) j (.int .i64 (zs.getD j 0)))
        have HGn := Lib.hid (G.out.setOther (a := ⟨bi, j, none⟩) (by exact (row_ne I.out G.out (by decide)).symm) (.int .i64 (zs.getD j 0)))
        have hb' : Below w.heap.size w (wr.setCell ⟨bi, j, none⟩ (.int .i64 (zs.getD j 0))) := hbw.setCell (p := ⟨bi, j, none⟩) (by show w.heap.size ≤ bi; have := HB.out; omega) _
        have f0 := F.out.cell 0 rfl
        have f1 := F.out.cell 1 rfl
        have hix := indexU cu j hlt _ hcu wr
        have hrg := HZs.out (zs.getD j 0) (by rw [List.getD_eq_getElem?_getD, List.getElem?_eq_getElem (by rw [HL.out.1]; exact hlt)]; exact List.getElem_mem _)
        have hw6 : RowKit.wrap64 (zs.getD j 0) = zs.getD j 0 := by unfold RowKit.wrap64; omega
        generalize hx : zs.getD j 0 = x at hix hrg hw6 HI HF HY HXn HGn hb'
        have HX := Lib.hid hx
        have hi : (j : Int) < 256 := by omega
        clear hx F I G X Y hbw hcu
        go_wp2
        go_roundw
        case rel =>
          refine ⟨j + 1, by omega, by go_num, hb', HF, Lib.hid (HI.out.congr (fun i _ => ?_)), HGn, HXn, HY⟩
          show (if i = j then Value.int .i64 x else if i < j then _ else _) = _
          by_cases e : i = j
          · subst e; rw [if_pos rfl, if_pos (by omega), HX.out]
          · rw [if_neg e]
            by_cases e2 : i < j
            · rw [if_pos e2, if_pos (by omega)]
            · rw [if_neg e2, if_neg (by omega)]
        case measure => simp [intOf]; omega
      · obtain rfl : j = 256 := by omega
        have f1 := F.out.cell 1 rfl
        have h6 : Below wr.heap.size wr wr.drew := (Below.refl _ _).drew
        obtain ⟨cur, hcl, hcg⟩ := row_heap G.out
        have HG : Hid (wr.drew.heap[bg]? = some (.cells cur.toArray 4 (0, 0))) := Lib.hid hcg
        have HSr := Lib.hid (show ∀ j v, (cellsB gs)[j]? = some v → wr.drew.cell? ((⟨w.heap.size, 256, none⟩ : Addr).add j) = some v from X.out.srcG HL.out.1)
        have HCb : Hid ((cellsB gs).length = Nat.min 16 16) := Lib.hid (by rw [cellsB_len, HL.out.2]; rfl)
        have HFit : Hid (0 + (cellsB gs).length ≤ cur.length) := Lib.hid (by rw [cellsB_len, HL.out.2, hcl]; omega)
        have HOne : Hid (∀ v ∈ cellsB gs, v.oneCell' = true) := Lib.hid (fun v hv => by unfold cellsB at hv; obtain ⟨q, _, rfl⟩ := List.mem_map.1 hv; rfl)
        have HSp : Hid (splice cur 0 (cellsB gs) = cellsB gs) := Lib.hid (splice_all _ _ (by rw [hcl, cellsB_len, HL.out.2]))
        have HNe : Hid (bf ≠ bg ∧ bi ≠ bg ∧ w.heap.size + 1 ≠ bg) := Lib.hid ⟨F.out.ne G.out (by decide), row_ne I.out G.out (by decide), Y.out.ne G.out (by decide)⟩
        have HK : Hid (∀ W', Btw bg (bg + 1) wr.drew W' → W'.cell? ⟨bf, 1, none⟩ = some (.slice (some ⟨bg, 0, none⟩) 16 16)) := Lib.hid (fun W' hb => ((F.out.step h6).btw hb (by have := HNe.out; omega)).cell 1 rfl)
        generalize hcb : cellsB gs = cb at HSr HCb HFit HOne HSp
        have HCbe := Lib.hid hcb
        have HRest := Lib.hid (And.intro F.out (And.intro I.out Y.out))
        have HBw := Lib.hid hbw
        clear hcl hcg hcb F I G X Y hbw
        go_wp2
        go_region_held3 (fun W => W.cell? ⟨bf, 1, none⟩ = some (.slice (some ⟨bg, 0, none⟩) 16 16))
          (first | exact HK.out _ (Btw.refl _ _ _) | exact HK.out _ hb2)
          (first | (refine step_copy_btw rfl (.tmp 25) (.tmp 27) 24 24 rfl 4 Try.underlying24 szBool bg 0 16 16 ⟨w.heap.size, 256, none⟩ 16 16 rfl rfl cur 4 HG.out cb HCb.out HSr.out HFit.out HOne.out ?_; intro w2 hg2 hb2))
        have hF := (HRest.out.1.step h6).btw hb2 (by have := HNe.out; omega)
        have hI := hb2.row (row_below h6 HRest.out.2.1 HRest.out.2.1.lt) (by have := HNe.out; omega)
        have hY := (HRest.out.2.2.step h6).btw hb2 (by have := HNe.out; omega)
        have hbz : Below w.heap.size w w2 := (HBw.out.drew).trans ((hb2.below (by have := HG.out; exact Nat.le_of_lt (Array.getElem?_eq_some_iff.1 this).1)).mono (by have := HB.out; omega))
        have HOwB : Hid (OwnB w2 w.heap.size w2.heap.size (some ⟨bg, 0, none⟩) gs) := Lib.hid (ownB_row (by have := hg2.out; rw [HSp.out, ← HCbe.out] at this; exact this) (by have := HB.out; omega))
        have HOwI : Hid (OwnI w2 w.heap.size w2.heap.size (some ⟨bi, 0, none⟩) zs) := Lib.hid (.inr ⟨bi, 256, _, rfl, by have := HB.out; omega, hI.lt, by rw [HL.out.1]; omega, hI, fun i hi => by rw [if_pos (by rw [HL.out.1] at hi; exact hi)]⟩)
        have k0 := hF.cell 0 rfl
        have k1 := hF.cell 1 rfl
        have k2 := hF.cell 2 rfl
        have y0 := hY.cell 0 rfl
        have y1 := hY.cell 1 rfl
        have y2 := hY.cell 2 rfl
        have y0z := hY.frozen 0
        have y1z := hY.frozen 1
        have y2z := hY.frozen 2
        have HY2 := Lib.hid hY
        clear f1 h6 hF hI hY HK HG HSr HCb HFit HOne HSp HNe HRest HBw hg2 hb2
        go_wp2
        refine bodyPost_ret (v := .agg #[.slice (some ⟨bi, 0, none⟩) 256 256, .slice (some ⟨bg, 0, none⟩) 16 16, .int .i64 st]) (by simp [results, Try.results78, go_sem, y0, y1, y2]) rfl ?_
        refine ⟨_, _, _, _, _, _, rfl, Lib.hid HL.out.1, Lib.hid HL.out.2, Lib.hid ?_, Lib.hid ?_, ?_⟩
        · exact (HOwI.out.far3 HY2.out _ _ _).wideB (Nat.le_refl _) (by rw [size3]; exact Nat.le_refl _)
        · exact (HOwB.out.far3 HY2.out _ _ _).wide (Nat.le_refl _) (by rw [size3]; exact Nat.le_refl _)
        · exact below3 hbz (by omega) _ _ _
end Go.Proofs.Ytagdclbpgkilgaa

/- Contracts of commanded, chip.next, chip.wipe. -/
namespace Go.Proofs.Ytagdclbpgkilgaa
open Go.RowKit

def cmdS (v : Int) : Int := if v = 160 then 3 else if v = 128 then 4 else if v = 144 then 7 else if v = 154 then 8 else 0
def nextS (st k v : Int) : Int :=
  if st = 0 ∨ st = 4 then (if k = 85 ∧ v = 170 then st + 1 else 0)
  else if st = 1 ∨ st = 5 then (if k = 42 ∧ v = 85 then st + 1 else 0)
  else if st = 2 then (if k = 85 then cmdS v else 0)
  else if st = 7 then (if v = 240 then 0 else 7)
  else 0
def eraseN (zs : List Int) (gs : List Bool) : Nat → List Int
  | 0 => zs
  | n + 1 => eraseL (eraseN zs gs n) gs n
theorem eraseN_len (zs : List Int) (gs : List Bool) : ∀ n, (eraseN zs gs n).length = zs.length
  | 0 => rfl
  | n + 1 => by rw [eraseN, eraseL_len, eraseN_len zs gs n]
def wipeZ (zs : List Int) (gs : List Bool) (k v : Nat) : List Int :=
  if v = 16 then (if k = 85 then eraseN zs gs 16 else zs) else if v = 48 then eraseL zs gs (k / 16) else zs
theorem wipeZ_len (zs : List Int) (gs : List Bool) (k v : Nat) : (wipeZ zs gs k v).length = zs.length := by
  unfold wipeZ
  split
  · split
    · exact eraseN_len _ _ _
    · rfl
  · split
    · exact eraseL_len _ _ _
    · rfl

set_option maxRecDepth 100000 in
theorem commanded (v : Int) (w : World) : Calls Try.prog 138 #[.int .u8 v] w fun e w' => e = .returned (.int .i64 (cmdS v)) ∧ w = w' := by
  go_enter Try.func138, Try.ntmps138
  go_wp2
  all_goals go_ret
  all_goals (refine ⟨ret_int ?_, rfl⟩)
  all_goals (unfold cmdS; simp_all)

set_option maxRecDepth 100000 in
set_option maxHeartbeats 4000000 in
theorem chipNext (k v : Nat) (zs : List Int) (gs : List Bool) (st : Int) (w : World) (hz : zs.length = 256) (hg : gs.length = 16) (hs : 0 ≤ st ∧ st ≤ 8) :
    Calls Try.prog 136 #[.agg (chipC zs gs st).toArray, .int .i64 k, .int .u8 v] w fun e w' => e = .returned (.int .i64 (nextS st k v)) ∧ Below w.heap.size w w' := by
  have hb0 := alloc_below w (.cells (chipC zs gs st).toArray 108)
  have x0 := (BC.new w zs gs st).state hz hg
  generalize chipC zs gs st = cs at hb0 x0
  clear hz hg
  have h9 : st = 0 ∨ st = 1 ∨ st = 2 ∨ st = 3 ∨ st = 4 ∨ st = 5 ∨ st = 6 ∨ st = 7 ∨ st = 8 := by omega
  clear hs
  have hcm := fun W => commanded (v : Int) W
  have HC := Lib.hid hcm
  clear hcm
  rcases h9 with rfl | rfl | rfl | rfl | rfl | rfl | rfl | rfl | rfl
  all_goals (
    go_enter Try.func136, Try.ntmps136
    go_wp2_with (first | (go_at_call 138; refine (HC.out _).mono ?_; rintro e w' ⟨rfl, rfl⟩)))
  all_goals go_ret
  all_goals (refine ⟨ret_int ?_, hb0⟩)
  all_goals (unfold nextS; simp_all)
end Go.Proofs.Ytagdclbpgkilgaa

/- Contracts of chip.wipe and chip.cycle. -/
namespace Go.Proofs.Ytagdclbpgkilgaa
open Go.RowKit

/-- One round of 'c = c.erase(block)' : the chip in block b is replaced. -/
theorem BC.again {w w' : World} {b : Nat} {zs zs' : List Int} {gs gs' : List Bool} {st st' : Int} (h : BC w b zs gs st) (hb : Below w.heap.size w w') (h1 : zs'.length = zs.length) (h2 : gs'.length = gs.length) : BC (w'.setCells b 0 (chipC zs' gs' st')) b zs' gs' st' := (h.step hb).put h1 h2
/-- What a load of a chip, and a store into its block, want. -/
structure Loads (W : World) (b : Nat) (cs : List Value) : Prop where
  range : W.rangeAt b 0 cs
  size : (Try.prog.info? 108).map (·.size) = some cs.length
theorem BC.loads {W : World} {b : Nat} {zs : List Int} {gs : List Bool} {st : Int} (h : BC W b zs gs st) (hz : zs.length = 256) (hg : gs.length = 16) : Loads W b (chipC zs gs st) := ⟨h.range, sizeC zs gs st hz hg⟩
structure Stores (W : World) (b : Nat) (cs : List Value) : Prop where
  room : W.there b 0 cs.toArray.size
  size : (Try.prog.info? 108).map (·.size) = some cs.toArray.size
  one : cs.toArray.all (·.oneCell') = true
theorem BC.stores {W : World} {b : Nat} {zs zs' : List Int} {gs gs' : List Bool} {st st' : Int} (h : BC W b zs gs st) (hz : zs.length = 256) (hg : gs.length = 16) (hz' : zs'.length = 256) (hg' : gs'.length = 16) : Stores W b (chipC zs' gs' st') :=
  ⟨by rw [show (chipC zs' gs' st').toArray.size = 273 from List.size_toArray.trans (chipC_273 hz' hg' st')]; exact h.there273 hz hg, (sizeC zs' gs' st' hz' hg').trans (congrArg some List.size_toArray.symm), all_oneCell_toArray (chipC_one zs' gs' st')⟩

set_option maxRecDepth 100000 in
set_option maxHeartbeats 4000000 in
theorem chipWipe (k v : Nat) (zs : List Int) (gs : List Bool) (st : Int) (w : World) (hz : zs.length = 256) (hg : gs.length = 16) (hk : k < 256) (hv : v < 256) :
    Calls Try.prog 133 #[.agg (chipC zs gs st).toArray, .int .i64 k, .int .u8 v] w (GivesChip (wipeZ zs gs k v) gs st w) := by
  obtain ⟨X0, Y0, hb0⟩ := two_chips w zs gs st
  have HB := Lib.hid (fun W => blockOf k (by omega) W)
  have HEr := Lib.hid (fun b (hb : b < 16) zs' (hz' : zs'.length = 256) W => chipErase b zs' gs st W hz' hg hb)
  have HL := Lib.hid (And.intro hz hg)
  have HIn := Lib.hid infoCx
  obtain ⟨zc, hzc⟩ : ∃ zc, zc = zC.toArray := ⟨_, rfl⟩
  rw [← hzc] at HIn X0 Y0 hb0
  obtain ⟨W1, hW1⟩ : ∃ W1, W1 = (w.alloc (.cells (chipC zs gs st).toArray 108)).alloc (.cells zc 108) := ⟨_, rfl⟩
  have hkd : k / 16 < 16 := by omega
  by_cases hv16 : v = 16
  · subst hv16
    by_cases hk85 : k = 85
    · subst hk85
      have HR : Hid (wipeZ zs gs 85 16 = eraseN zs gs 16) := Lib.hid (by unfold wipeZ; rw [if_pos rfl, if_pos rfl])
      rw [← hW1] at X0 Y0 hb0
      have HX := Lib.hid (And.intro X0 (And.intro Y0 hb0))
      generalize hcs : chipC zs gs st = cs at hW1
      have HW1 := Lib.hid hW1
      clear hz hg X0 Y0 hb0 hzc hcs hW1
      go_enter Try.func133, Try.ntmps133
      go_wp2_with (first
        | (with_reducible refine wpList_alloc_big rfl 108 rfl zc HIn.out ?_)
        | (go_at_call 135; refine (HB.out _).mono ?_; rintro e w' ⟨rfl, rfl⟩))
      rw [← HW1.out]
      go_loopw [9] (fun i wr => ∃ j : Nat, j ≤ 16 ∧ i = .int .i64 j ∧ Below w.heap.size w wr ∧ Hid (BC wr w.heap.size (eraseN zs gs j) gs st) ∧ Hid (BC wr (w.heap.size + 1) zZ zG 0)) (fun i _ => 16 - (intOf i).toNat)
      case atStart => exact ⟨0, by omega, rfl, HX.out.2.2, Lib.hid HX.out.1, Lib.hid HX.out.2.1⟩
      case round =>
        clear HX HW1
        obtain ⟨j, hj, rfl, hbw, X, Y⟩ := hrel
        by_cases hlt : j < 16
        · have HLd := Lib.hid (X.out.loads (by rw [eraseN_len]; exact HL.out.1) HL.out.2)
          have HE := Lib.hid (HEr.out j hlt (eraseN zs gs j) (by rw [eraseN_len]; exact HL.out.1) wr)
          have HE2 : Hid (Calls Try.prog 137 #[.agg (chipC (eraseN zs gs j) gs st).toArray, .int .i64 j] wr fun e w' => e = .returned (.agg (chipC (eraseN zs gs (j + 1)) gs st).toArray) ∧ Below wr.heap.size wr w') := HE
          have HSt := Lib.hid (fun w' (hb : Below wr.heap.size wr w') => (X.out.step hb).stores (zs' := eraseN zs gs (j + 1)) (gs' := gs) (st' := st) (by rw [eraseN_len]; exact HL.out.1) HL.out.2 (by rw [eraseN_len]; exact HL.out.1) HL.out.2)
          have HXn := Lib.hid (fun w' (hb : Below wr.heap.size wr w') => X.out.again (zs' := eraseN zs gs (j + 1)) (gs' := gs) (st' := st) hb (by rw [eraseN_len, eraseN_len]) rfl)
          have HYn := Lib.hid (fun w' (hb : Below wr.heap.size wr w') cs => (Y.out.step hb).far' (show w.heap.size + 1 ≠ w.heap.size by omega) 0 cs)
          generalize hca : chipC (eraseN zs gs j) gs st = ca at HLd HE2
          generalize hcb : chipC (eraseN zs gs (j + 1)) gs st = cb at HE2 HSt HXn
          have hi : (j : Int) ≤ 15 := by omega
          clear HE X Y hca hcb HR
          go_wp2_with (first
            | (with_reducible refine wpList_load_mid rfl 108 (.tmp 3) rfl w.heap.size 0 rfl ca _ HLd.out.range Try.underlying108 rfl HLd.out.size ?_))
          refine HE2.out.mono ?_
          rintro e w2 ⟨rfl, hb2⟩
          have HS := Lib.hid (HSt.out w2 hb2)
          go_wp2_with (first
            | (with_reducible refine wpList_store_mid rfl 108 (.tmp 3) (.tmp 30) rfl w.heap.size 0 cb.toArray rfl rfl HS.out.room HS.out.size HS.out.one ?_))
          go_roundw
          case rel => exact ⟨j + 1, by omega, by go_num, below_setCellsC (bt hbw hb2) (Nat.le_refl _) 0 cb, Lib.hid (HXn.out w2 hb2), Lib.hid (HYn.out w2 hb2 cb)⟩
          case measure => simp [intOf] <;> omega
        · obtain rfl : j = 16 := by omega
          have HH := Lib.hid (X.out.hands Y.out (by rw [eraseN_len]; exact HL.out.1) HL.out.2 zZ_len zG_len)
          rw [← HR.out] at HH
          generalize hcs : chipC (wipeZ zs gs 85 16) gs st = cs at HH
          have HCs := Lib.hid hcs
          clear hcs X Y
          go_wp2_with (first
            | (with_reducible refine wpList_load_mid rfl 108 (.tmp 3) rfl w.heap.size 0 rfl cs _ HH.out.range Try.underlying108 rfl HH.out.size ?_)
            | (with_reducible refine wpList_store_mid rfl 108 (.tmp 6) (.tmp 31) rfl (w.heap.size + 1) 0 cs.toArray rfl rfl HH.out.room HH.out.size' HH.out.one ?_))
          refine bodyPost_ret (v := .agg cs.toArray) (results_cellC Try.results133 (by rfl) HH.out.back) rfl ?_
          exact ⟨by rw [HCs.out], below_setCellsC hbw (by omega) 0 cs⟩
    · have hq : ((k : Int) != 85) = true := by simp; omega
      have HR : Hid (wipeZ zs gs k 16 = zs) := Lib.hid (by unfold wipeZ; rw [if_pos rfl, if_neg hk85])
      rw [← hW1] at X0 Y0 hb0
      have HH := Lib.hid (X0.hands Y0 hz hg zZ_len zG_len)
      have HBl := Lib.hid hb0
      generalize hcs : chipC zs gs st = cs at HH hW1
      have HCs : Hid (chipC (wipeZ zs gs k 16) gs st = cs) := Lib.hid (by rw [HR.out]; exact hcs)
      have HW1 := Lib.hid hW1
      clear hz hg X0 Y0 hb0 hzc hcs hW1 hk85 HR
      go_enter Try.func133, Try.ntmps133
      go_wp2_with (first
        | (with_reducible refine wpList_alloc_big rfl 108 rfl zc HIn.out ?_)
        | (go_at_call 135; refine (HB.out _).mono ?_; rintro e w' ⟨rfl, rfl⟩)
        | (rw [← HW1.out]; with_reducible refine wpList_load_mid rfl 108 (.tmp 3) rfl w.heap.size 0 rfl cs _ HH.out.range Try.underlying108 rfl HH.out.size ?_)
        | (with_reducible refine wpList_store_mid rfl 108 (.tmp 6) (.tmp 21) rfl (w.heap.size + 1) 0 cs.toArray rfl rfl HH.out.room HH.out.size' HH.out.one ?_))
      refine bodyPost_ret (v := .agg cs.toArray) (results_cellC Try.results133 (by rfl) HH.out.back) rfl ?_
      exact ⟨by rw [HCs.out], below_setCellsC HBl.out (by omega) 0 cs⟩
  · have hq16 : ((v : Int) == 16) = false := by simp; omega
    by_cases hv48 : v = 48
    · subst hv48
      have HR : Hid (wipeZ zs gs k 48 = eraseL zs gs (k / 16)) := Lib.hid (by unfold wipeZ; rw [if_neg (by omega), if_pos rfl])
      rw [← hW1] at X0 Y0 hb0
      have HX := Lib.hid (And.intro X0 (And.intro Y0 hb0))
      generalize hcs : chipC zs gs st = cs at hW1
      have HW1 := Lib.hid hW1
      clear hz hg X0 Y0 hb0 hzc hcs hW1
      obtain ⟨kb, hkb⟩ : ∃ kb, kb = k / 16 := ⟨_, rfl⟩
      rw [← hkb] at hkd HR HB
      have HKb := Lib.hid hkb
      clear hkb
      go_enter Try.func133, Try.ntmps133
      go_wp2_with (first
        | (with_reducible refine wpList_alloc_big rfl 108 rfl zc HIn.out ?_)
        | (go_at_call 135; refine (HB.out _).mono ?_; rintro e w' ⟨rfl, rfl⟩))
      rw [← HW1.out]
      go_loopw [9] (fun i wr => ∃ j : Nat, j ≤ 1 ∧ i = .int .i64 ((kb + j : Nat) : Int) ∧ Below w.heap.size w wr ∧ Hid (BC wr w.heap.size (if j = 0 then zs else eraseL zs gs kb) gs st) ∧ Hid (BC wr (w.heap.size + 1) zZ zG 0)) (fun i _ => kb + 1 - (intOf i).toNat)
      case atStart => exact ⟨0, by omega, rfl, HX.out.2.2, Lib.hid HX.out.1, Lib.hid HX.out.2.1⟩
      case round =>
        clear HX HW1
        obtain ⟨j, hj, rfl, hbw, X0, Y⟩ := hrel
        by_cases hlt : j = 0
        · subst hlt
          have X : Hid (BC wr w.heap.size zs gs st) := Lib.hid (by have := X0.out; rwa [if_pos rfl] at this)
          have HLd := Lib.hid (X.out.loads HL.out.1 HL.out.2)
          have HE := Lib.hid (HEr.out kb hkd zs HL.out.1 wr)
          have HE2 : Hid (Calls Try.prog 137 #[.agg (chipC zs gs st).toArray, .int .i64 kb] wr fun e w' => e = .returned (.agg (chipC (eraseL zs gs kb) gs st).toArray) ∧ Below wr.heap.size wr w') := HE
          have HSt := Lib.hid (fun w' (hb : Below wr.heap.size wr w') => (X.out.step hb).stores (zs' := eraseL zs gs kb) (gs' := gs) (st' := st) HL.out.1 HL.out.2 (by rw [eraseL_len]; exact HL.out.1) HL.out.2)
          have HXn := Lib.hid (fun w' (hb : Below wr.heap.size wr w') => X.out.again (zs' := eraseL zs gs kb) (gs' := gs) (st' := st) hb (by rw [eraseL_len]) rfl)
          have HYn := Lib.hid (fun w' (hb : Below wr.heap.size wr w') cs => (Y.out.step hb).far' (show w.heap.size + 1 ≠ w.heap.size by omega) 0 cs)
          generalize hca : chipC zs gs st = ca at HLd HE2
          generalize hcb : chipC (eraseL zs gs kb) gs st = cb at HE2 HSt HXn
          clear HE X X0 Y hca hcb HR
          go_wp2_with (first
            | (with_reducible refine wpList_load_mid rfl 108 (.tmp 3) rfl w.heap.size 0 rfl ca _ HLd.out.range Try.underlying108 rfl HLd.out.size ?_))
          refine HE2.out.mono ?_
          rintro e w2 ⟨rfl, hb2⟩
          have HS := Lib.hid (HSt.out w2 hb2)
          go_wp2_with (first
            | (with_reducible refine wpList_store_mid rfl 108 (.tmp 3) (.tmp 30) rfl w.heap.size 0 cb.toArray rfl rfl HS.out.room HS.out.size HS.out.one ?_))
          go_roundw
          case rel => exact ⟨1, by omega, by go_num, below_setCellsC (bt hbw hb2) (Nat.le_refl _) 0 cb, Lib.hid (by rw [if_neg (by omega)]; exact HXn.out w2 hb2), Lib.hid (HYn.out w2 hb2 cb)⟩
          case measure => simp [intOf] <;> omega
        · obtain rfl : j = 1 := by omega
          have X : Hid (BC wr w.heap.size (eraseL zs gs kb) gs st) := Lib.hid (by have := X0.out; rwa [if_neg (by omega)] at this)
          have HH := Lib.hid (X.out.hands Y.out (by rw [eraseL_len]; exact HL.out.1) HL.out.2 zZ_len zG_len)
          rw [← HR.out] at HH
          generalize hcs : chipC (wipeZ zs gs k 48) gs st = cs at HH
          have HCs := Lib.hid hcs
          clear hcs X X0 Y hlt
          go_wp2_with (first
            | (with_reducible refine wpList_load_mid rfl 108 (.tmp 3) rfl w.heap.size 0 rfl cs _ HH.out.range Try.underlying108 rfl HH.out.size ?_)
            | (with_reducible refine wpList_store_mid rfl 108 (.tmp 6) (.tmp 31) rfl (w.heap.size + 1) 0 cs.toArray rfl rfl HH.out.room HH.out.size' HH.out.one ?_))
          refine bodyPost_ret (v := .agg cs.toArray) (results_cellC Try.results133 (by rfl) HH.out.back) rfl ?_
          exact ⟨by rw [HCs.out], below_setCellsC hbw (by omega) 0 cs⟩
    · have hq48 : ((v : Int) == 48) = false := by simp; omega
      have HR : Hid (wipeZ zs gs k v = zs) := Lib.hid (by unfold wipeZ; rw [if_neg hv16, if_neg hv48])
      rw [← hW1] at X0 Y0 hb0
      have HH := Lib.hid (X0.hands Y0 hz hg zZ_len zG_len)
      have HBl := Lib.hid hb0
      generalize hcs : chipC zs gs st = cs at HH hW1
      have HCs : Hid (chipC (wipeZ zs gs k v) gs st = cs) := Lib.hid (by rw [HR.out]; exact hcs)
      have HW1 := Lib.hid hW1
      clear hz hg X0 Y0 hb0 hzc hcs hW1 HR hv16 hv48
      go_enter Try.func133, Try.ntmps133
      go_wp2_with (first
        | (with_reducible refine wpList_alloc_big rfl 108 rfl zc HIn.out ?_)
        | (go_at_call 135; refine (HB.out _).mono ?_; rintro e w' ⟨rfl, rfl⟩)
        | (rw [← HW1.out]; with_reducible refine wpList_load_mid rfl 108 (.tmp 3) rfl w.heap.size 0 rfl cs _ HH.out.range Try.underlying108 rfl HH.out.size ?_)
        | (with_reducible refine wpList_store_mid rfl 108 (.tmp 6) (.tmp 31) rfl (w.heap.size + 1) 0 cs.toArray rfl rfl HH.out.room HH.out.size' HH.out.one ?_))
      refine bodyPost_ret (v := .agg cs.toArray) (results_cellC Try.results133 (by rfl) HH.out.back) rfl ?_
      exact ⟨by rw [HCs.out], below_setCellsC HBl.out (by omega) 0 cs⟩
end Go.Proofs.Ytagdclbpgkilgaa

/- The model's l03Guard and l03Erase. -/
namespace Go.Proofs.Ytagdclbpgkilgaa
open Go.RowKit

set_option maxRecDepth 100000 in
set_option maxHeartbeats 4000000 in
theorem l03Guard (A C : Option Addr) (n c m d k : Nat) (st : Int) (zs : List Int) (gs : List Bool) (w : World) (hl : zs.length = n) (hm : gs.length = m) (hn : n = 256) (hmm : m = 16) (hk : k < 16) (h : IntL w A zs) (g : BoolL w C gs) :
    Calls Try.prog 102 #[.agg #[.slice A n c, .slice C m d, .int .i64 st], .int .i64 k] w (GivesFlash zs (gs.set k true) st w) := by
  obtain ⟨W0, hW0⟩ : ∃ W0, W0 = ((w.alloc (.cells #[.slice A n c, .slice C m d, .int .i64 st] 26)).alloc (.cells #[.slice none 0 0, .slice none 0 0, .int .i64 0] 26)) := ⟨_, rfl⟩
  have hb0 : Below w.heap.size w W0 := by rw [hW0]; exact bt (alloc_below _ _) (alloc_below _ _)
  have X0 : Box W0 w.heap.size 26 #[.slice A n c, .slice C m d, .int .i64 st] := by rw [hW0]; exact (Box.new _ _ _).alloc _
  have Y0 : Box W0 (w.heap.size + 1) 26 #[.slice none 0 0, .slice none 0 0, .int .i64 0] := by rw [hW0]; simpa using Box.new (w.alloc (.cells #[.slice A n c, .slice C m d, .int .i64 st] 26)) 26 #[.slice none 0 0, .slice none 0 0, .int .i64 0]
  have HO := Lib.hid (l03Own A C n c m d st zs gs W0 hl hm hn hmm (h.below hb0) (g.below hb0))
  have HLen : Hid (zs.length = 256 ∧ gs.length = 16) := Lib.hid ⟨by omega, by omega⟩
  have HX := Lib.hid (And.intro X0 Y0)
  have HW0 := Lib.hid hW0
  clear hl hm h g hW0 X0 Y0 hn hmm
  have hki : (k : Int) < 16 := by omega
  go_enter Try.func102, Try.ntmps102
  go_wp2_with fail
  rw [← HW0.out]
  refine HO.out.mono ?_
  rintro e w1 ⟨A1, n1, c1, C1, m1, d1, rfl, L1, M1, S1, R1, hb1⟩
  obtain rfl : n1 = 256 := by have := L1.out; have := HLen.out; omega
  obtain rfl : m1 = 16 := by have := M1.out; have := HLen.out; omega
  have X1 := HX.out.1.step hb1
  have Y1 := HX.out.2.step hb1
  have a0 := X1.cell 0 rfl
  have a1 := X1.cell 1 rfl
  have a2 := X1.cell 2 rfl
  have a0z := X1.frozen 0
  have a1z := X1.frozen 1
  have a2z := X1.frozen 2
  obtain ⟨w2, hw2⟩ : ∃ w2, w2 = ((w1.setCell ⟨w.heap.size, 0, none⟩ (.slice A1 256 c1)).setCell ⟨w.heap.size, 1, none⟩ (.slice C1 16 d1)).setCell ⟨w.heap.size, 2, none⟩ (.int .i64 st) := ⟨_, rfl⟩
  have X2 : Box w2 w.heap.size 26 #[.slice A1 256 c1, .slice C1 16 d1, .int .i64 st] := by rw [hw2]; exact X1.flash3 rfl _ _ _
  have Y2 : Box w2 (w.heap.size + 1) 26 #[.slice none 0 0, .slice none 0 0, .int .i64 0] := by rw [hw2]; exact Y1.far3 (by omega) _ _ _
  have S2 : Hid (OwnI w2 w.heap.size w2.heap.size A1 zs) := Lib.hid (by rw [hw2]; exact (S1.out.far3 X1 _ _ _).wideB hb0.size (by rw [size3]; exact Nat.le_refl _))
  have R2 : Hid (OwnB w2 w.heap.size w2.heap.size C1 gs) := Lib.hid (by rw [hw2]; exact (R1.out.far3 X1 _ _ _).wide hb0.size (by rw [size3]; exact Nat.le_refl _))
  have hb2 : Below w.heap.size w w2 := by rw [hw2]; exact below3 (bt hb0 hb1) (Nat.le_refl _) _ _ _
  obtain ⟨bg, mg, fg, rfl, hcg, hfg, hlo, hhi, hrg, hput⟩ := R2.out.put k (by have := HLen.out; omega)
  generalize gs.getD k false = q at hcg
  have HPut := Lib.hid (And.intro hlo hput)
  have X3 := X2.other hrg (by decide) k (.bool true)
  have Y3 := Y2.other hrg (by decide) k (.bool true)
  have S3 := Lib.hid (S2.out.other hrg (by decide) k (.bool true))
  have x0 := X2.cell 0 rfl
  have x1 := X2.cell 1 rfl
  have u0 := X3.cell 0 rfl
  have u1 := X3.cell 1 rfl
  have u2 := X3.cell 2 rfl
  have t0 := Y3.cell 0 rfl
  have t1 := Y3.cell 1 rfl
  have t2 := Y3.cell 2 rfl
  have t0z := Y3.frozen 0
  have t1z := Y3.frozen 1
  have t2z := Y3.frozen 2
  have HYs := Lib.hid Y3
  have HB2 := Lib.hid (And.intro hb2 hw2)
  rw [hw2] at hcg hfg x0 x1 u0 u1 u2 t0 t1 t2 t0z t1z t2z
  clear X1 Y1 S1 R1 hb0 hb1 hw2 X2 Y2 hb2 hlo hhi hrg hput X3 Y3 HO HX HW0 fg
  go_wp2
  refine bodyPost_ret (v := .agg #[.slice A1 256 c1, .slice (some ⟨bg, 0, none⟩) 16 d1, .int .i64 st]) (by simp [results, Try.results102, go_sem, t0, t1, t2]) rfl ?_
  rw [← HB2.out.2]
  refine ⟨_, _, _, _, _, _, rfl, Lib.hid HLen.out.1, Lib.hid (by rw [List.length_set]; exact HLen.out.2), Lib.hid ?_, Lib.hid ?_, ?_⟩
  · exact (S3.out.far3 HYs.out _ _ _).wideB (Nat.le_refl _) (by rw [size3]; simp [World.setCell])
  · exact ((HPut.out.2 true).far3 HYs.out _ _ _).wide (Nat.le_refl _) (by rw [size3]; simp [World.setCell])
  · exact below3 (HB2.out.1.setCell (p := ⟨bg, k, none⟩) HPut.out.1 _) (by omega) _ _ _

set_option maxRecDepth 100000 in
set_option maxHeartbeats 4000000 in
theorem l03Erase (A C : Option Addr) (n c m d k : Nat) (st : Int) (zs : List Int) (gs : List Bool) (w : World) (hl : zs.length = n) (hm : gs.length = m) (hn : n = 256) (hmm : m = 16) (hk : k < 16) (h : IntL w A zs) (g : BoolL w C gs) :
    Calls Try.prog 105 #[.agg #[.slice A n c, .slice C m d, .int .i64 st], .int .i64 k] w (GivesFlash (eraseL zs gs k) gs st w) := by
  obtain ⟨W0, hW0⟩ : ∃ W0, W0 = ((w.alloc (.cells #[.slice A n c, .slice C m d, .int .i64 st] 26)).alloc (.cells #[.slice none 0 0, .slice none 0 0, .int .i64 0] 26)) := ⟨_, rfl⟩
  have hb0 : Below w.heap.size w W0 := by rw [hW0]; exact bt (alloc_below _ _) (alloc_below _ _)
  have X0 : Box W0 w.heap.size 26 #[.slice A n c, .slice C m d, .int .i64 st] := by rw [hW0]; exact (Box.new _ _ _).alloc _
  have Y0 : Box W0 (w.heap.size + 1) 26 #[.slice none 0 0, .slice none 0 0, .int .i64 0] := by rw [hW0]; simpa using Box.new (w.alloc (.cells #[.slice A n c, .slice C m d, .int .i64 st] 26)) 26 #[.slice none 0 0, .slice none 0 0, .int .i64 0]
  have HO := Lib.hid (l03Own A C n c m d st zs gs W0 hl hm hn hmm (h.below hb0) (g.below hb0))
  have HLen : Hid (zs.length = 256 ∧ gs.length = 16) := Lib.hid ⟨by omega, by omega⟩
  have HE : Hid (∀ q, gs.getD k false = q → eraseL zs gs k = if q then zs else fillR zs (k * 16) (k * 16 + 16)) := Lib.hid (by intro q hq; unfold eraseL; rw [hq])
  generalize eraseL zs gs k = r at HE
  have HX := Lib.hid (And.intro X0 Y0)
  have HW0 := Lib.hid hW0
  clear hl hm h g hW0 X0 Y0 hn hmm
  have hki : (k : Int) < 16 := by omega
  go_enter Try.func105, Try.ntmps105
  go_wp2_with fail
  rw [← HW0.out]
  refine HO.out.mono ?_
  rintro e w1 ⟨A1, n1, c1, C1, m1, d1, rfl, L1, M1, S1, R1, hb1⟩
  obtain rfl : n1 = 256 := by have := L1.out; have := HLen.out; omega
  obtain rfl : m1 = 16 := by have := M1.out; have := HLen.out; omega
  have X1 := HX.out.1.step hb1
  have Y1 := HX.out.2.step hb1
  have a0 := X1.cell 0 rfl
  have a1 := X1.cell 1 rfl
  have a2 := X1.cell 2 rfl
  have a0z := X1.frozen 0
  have a1z := X1.frozen 1
  have a2z := X1.frozen 2
  obtain ⟨w2, hw2⟩ : ∃ w2, w2 = ((w1.setCell ⟨w.heap.size, 0, none⟩ (.slice A1 256 c1)).setCell ⟨w.heap.size, 1, none⟩ (.slice C1 16 d1)).setCell ⟨w.heap.size, 2, none⟩ (.int .i64 st) := ⟨_, rfl⟩
  have X2 : Hid (Box w2 w.heap.size 26 #[.slice A1 256 c1, .slice C1 16 d1, .int .i64 st]) := Lib.hid (by rw [hw2]; exact X1.flash3 rfl _ _ _)
  have Y2 : Hid (Box w2 (w.heap.size + 1) 26 #[.slice none 0 0, .slice none 0 0, .int .i64 0]) := Lib.hid (by rw [hw2]; exact Y1.far3 (by omega) _ _ _)
  have S2 : Hid (OwnI w2 w.heap.size w2.heap.size A1 zs) := Lib.hid (by rw [hw2]; exact (S1.out.far3 X1 _ _ _).wideB hb0.size (by rw [size3]; exact Nat.le_refl _))
  have R2 : Hid (OwnB w2 w.heap.size w2.heap.size C1 gs) := Lib.hid (by rw [hw2]; exact (R1.out.far3 X1 _ _ _).wide hb0.size (by rw [size3]; exact Nat.le_refl _))
  have hb2 : Below w.heap.size w w2 := by rw [hw2]; exact below3 (bt hb0 hb1) (Nat.le_refl _) _ _ _
  have HW2 := Lib.hid hw2
  clear X1 Y1 S1 R1 hb0 hb1 hw2 HO HX HW0
  go_wp2
  rw [← HW2.out]
  clear a0 a1 a2 a0z a1z a2z HW2
  go_loopw [5] (fun i wr => ∃ j : Nat, j ≤ 16 ∧ i = .int .i64 j ∧ Hid (gs.getD k false = true → j = 0) ∧ Below w.heap.size w wr ∧ Hid (Box wr w.heap.size 26 #[.slice A1 256 c1, .slice C1 16 d1, .int .i64 st]) ∧ Hid (Box wr (w.heap.size + 1) 26 #[.slice none 0 0, .slice none 0 0, .int .i64 0]) ∧ Hid (OwnI wr w.heap.size wr.heap.size A1 (fillR zs (k * 16) (k * 16 + j))) ∧ Hid (OwnB wr w.heap.size wr.heap.size C1 gs)) (fun i _ => 16 - (intOf i).toNat)
  case atStart => exact ⟨0, by omega, rfl, Lib.hid (fun _ => rfl), hb2, X2, Y2, Lib.hid (by rw [Nat.add_zero, fillR_none]; exact S2.out), R2⟩
  case round =>
    clear hb2 X2 Y2 S2 R2
    obtain ⟨j, hj, rfl, HJ, hbw, X, Y, S, R⟩ := hrel
    have x0 := X.out.cell 0 rfl
    have x1 := X.out.cell 1 rfl
    have x2 := X.out.cell 2 rfl
    have y0 := Y.out.cell 0 rfl
    have y1 := Y.out.cell 1 rfl
    have y2 := Y.out.cell 2 rfl
    have y0z := Y.out.frozen 0
    have y1z := Y.out.frozen 1
    have y2z := Y.out.frozen 2
    obtain ⟨bg, mg, fg, rfl, hcg, -, -, -, -, -⟩ := R.out.put k (by have := HLen.out; omega)
    have HE2 := Lib.hid (HE.out _ rfl)
    generalize gs.getD k false = q at hcg HE2 HJ
    cases q
    · by_cases hlt : j < 16
      · obtain ⟨ba, ma, fa, rfl, hca, hfa, hlo, hhi, hra, hput⟩ := S.out.put (k * 16 + j) (by rw [fillR_len]; have := HLen.out; omega)
        generalize (fillR zs (k * 16) (k * 16 + j)).getD (k * 16 + j) 0 = z at hca
        have hq := hput 255
        rw [fillR_next _ _ _ (by omega) (by have := HLen.out; omega)] at hq
        have HQ := Lib.hid hq
        have HX := Lib.hid (X.out.other hra (by decide) (k * 16 + j) (.int .i64 255))
        have HY := Lib.hid (Y.out.other hra (by decide) (k * 16 + j) (.int .i64 255))
        have HR := Lib.hid (R.out.other hra (by decide) (k * 16 + j) (.int .i64 255))
        have hb' : Below w.heap.size w (wr.setCell ⟨ba, k * 16 + j, none⟩ (.int .i64 255)) := hbw.setCell (p := ⟨ba, k * 16 + j, none⟩) hlo _
        have hi : (j : Int) < 16 := by omega
        have hidx : (k : Int) * 16 + (j : Int) < 256 := by omega
        clear hq hput hra hlo hhi X Y S R fa fg HE2 hbw
        go_wp2
        go_roundw
        case rel => exact ⟨j + 1, by omega, by go_num, Lib.hid (fun e => by cases e), hb', HX, HY, Lib.hid (HQ.out.wideB (Nat.le_refl _) (by simp [World.setCell])), Lib.hid (HR.out.wide (Nat.le_refl _) (by simp [World.setCell]))⟩
        case measure => simp [intOf]; omega
      · obtain rfl : j = 16 := by omega
        have HEr : Hid (r = fillR zs (k * 16) (k * 16 + 16)) := Lib.hid (by rw [HE2.out]; rfl)
        clear HE2 HE HJ
        go_wp2
        refine bodyPost_ret (v := .agg #[.slice A1 256 c1, .slice (some ⟨bg, 0, none⟩) 16 d1, .int .i64 st]) (by simp [results, Try.results105, go_sem, y0, y1, y2]) rfl ?_
        rw [HEr.out]
        refine ⟨_, _, _, _, _, _, rfl, Lib.hid (by rw [fillR_len]; exact HLen.out.1), Lib.hid HLen.out.2, Lib.hid ?_, Lib.hid ?_, ?_⟩
        · exact (S.out.far3 Y.out _ _ _).wideB (Nat.le_refl _) (by rw [size3]; exact Nat.le_refl _)
        · exact (R.out.far3 Y.out _ _ _).wide (Nat.le_refl _) (by rw [size3]; exact Nat.le_refl _)
        · exact below3 hbw (by omega) _ _ _
    · obtain rfl : j = 0 := HJ.out rfl
      have HEr : Hid (r = zs) := Lib.hid (by rw [HE2.out]; rfl)
      have S' : Hid (OwnI wr w.heap.size wr.heap.size A1 zs) := Lib.hid (by have := S.out; rwa [Nat.add_zero, fillR_none] at this)
      clear HE2 HE HJ S
      go_wp2
      refine bodyPost_ret (v := .agg #[.slice A1 256 c1, .slice (some ⟨bg, 0, none⟩) 16 d1, .int .i64 st]) (by simp [results, Try.results105, go_sem, y0, y1, y2]) rfl ?_
      rw [HEr.out]
      refine ⟨_, _, _, _, _, _, rfl, Lib.hid HLen.out.1, Lib.hid HLen.out.2, Lib.hid ?_, Lib.hid ?_, ?_⟩
      · exact (S'.out.far3 Y.out _ _ _).wideB (Nat.le_refl _) (by rw [size3]; exact Nat.le_refl _)
      · exact (R.out.far3 Y.out _ _ _).wide (Nat.le_refl _) (by rw [size3]; exact Nat.le_refl _)
      · exact below3 hbw (by omega) _ _ _
end Go.Proofs.Ytagdclbpgkilgaa

/- What the functions that hand back a flash and a code answer; the model's ProgramCell, EraseBlock, GuardBlock. -/
namespace Go.Proofs.Ytagdclbpgkilgaa
open Go.RowKit

def gate (cd : Int) (zs : List Int) (gs : List Bool) (st : Int) : List Int × List Bool × Int × Int := if cd = 0 then (zs, gs, st, 0) else ([], [], 0, cd)
def progOf (zs : List Int) (gs : List Bool) (st a v : Int) := gate (codeIf (okFlash zs gs st) (byB a && byB v)) (progL zs gs a.toNat v.toNat) gs st
def eraseOf (zs : List Int) (gs : List Bool) (st a : Int) := gate (codeIf (okFlash zs gs st) (blkB a)) (eraseL zs gs a.toNat) gs st
def guardOf (zs : List Int) (gs : List Bool) (st a : Int) := gate (codeIf (okFlash zs gs st) (blkB a)) zs (gs.set a.toNat true) st
theorem codeIf_ok {f ok : Bool} (h : codeIf f ok = 0) : f = true ∧ ok = true := by unfold codeIf at h; cases f <;> cases ok <;> simp_all
theorem gate_bound {f ok : Bool} {zs : List Int} {gs : List Bool} {st : Int} (h : f = true → zs.length ≤ 1048576 ∧ gs.length ≤ 1048576) : (gate (codeIf f ok) zs gs st).1.length ≤ 1048576 ∧ (gate (codeIf f ok) zs gs st).2.1.length ≤ 1048576 := by
  unfold gate
  by_cases q : codeIf f ok = 0
  · rw [if_pos q]; exact h (codeIf_ok q).1
  · rw [if_neg q]; simp
theorem progOf_bound (zs : List Int) (gs : List Bool) (st a v : Int) : (progOf zs gs st a v).1.length ≤ 1048576 ∧ (progOf zs gs st a v).2.1.length ≤ 1048576 := gate_bound (fun h => by have := okFlash_len h; rw [progL_len]; omega)
theorem eraseOf_bound (zs : List Int) (gs : List Bool) (st a : Int) : (eraseOf zs gs st a).1.length ≤ 1048576 ∧ (eraseOf zs gs st a).2.1.length ≤ 1048576 := gate_bound (fun h => by have := okFlash_len h; rw [eraseL_len]; omega)
theorem guardOf_bound (zs : List Int) (gs : List Bool) (st a : Int) : (guardOf zs gs st a).1.length ≤ 1048576 ∧ (guardOf zs gs st a).2.1.length ≤ 1048576 := gate_bound (fun h => by have := okFlash_len h; rw [List.length_set]; omega)
theorem progL_range {zs : List Int} {gs : List Bool} {k v : Nat} (h : ∀ z ∈ zs, 0 ≤ z ∧ z ≤ 255) (hv : v < 256) : ∀ z ∈ progL zs gs k v, 0 ≤ z ∧ z ≤ 255 := by
  intro z hz
  unfold progL at hz
  split at hz
  · exact h z hz
  · rcases List.mem_or_eq_of_mem_set hz with q | rfl
    · exact h z q
    · have := and_lt v (zs.getD k 0).toNat hv
      rw [Nat.and_comm] at this
      omega
theorem fillR_range {zs : List Int} (h : ∀ z ∈ zs, 0 ≤ z ∧ z ≤ 255) (a b : Nat) : ∀ z ∈ fillR zs a b, 0 ≤ z ∧ z ≤ 255 := by
  intro z hz
  unfold fillR at hz
  obtain ⟨i, hi, rfl⟩ := List.mem_map.1 hz
  have hi' : i < zs.length := by simpa using hi
  split
  · omega
  · exact h _ (by rw [List.getD_eq_getElem?_getD, List.getElem?_eq_getElem hi']; exact List.getElem_mem _)
theorem eraseL_range {zs : List Int} {gs : List Bool} {b : Nat} (h : ∀ z ∈ zs, 0 ≤ z ∧ z ≤ 255) : ∀ z ∈ eraseL zs gs b, 0 ≤ z ∧ z ≤ 255 := by
  intro z hz
  unfold eraseL at hz
  split at hz
  · exact h z hz
  · exact fillR_range h _ _ z hz
def GivesOf (r : List Int × List Bool × Int × Int) (w : World) (e : Ending) (w' : World) : Prop := GivesFlashCode r.1 r.2.1 r.2.2.1 r.2.2.2 w e w'

end Go.Proofs.Ytagdclbpgkilgaa

/- The contract of chip.cycle. -/
namespace Go.Proofs.Ytagdclbpgkilgaa
open Go.RowKit

def cycZ (zs : List Int) (gs : List Bool) (st : Int) (k v : Nat) : List Int := if st = 3 then progL zs gs k v else if st = 6 then wipeZ zs gs k v else zs
def cycG (gs : List Bool) (st : Int) (k : Nat) : List Bool := if st = 8 then gs.set (k / 16) true else gs
theorem cycZ_len (zs : List Int) (gs : List Bool) (st : Int) (k v : Nat) : (cycZ zs gs st k v).length = zs.length := by
  unfold cycZ
  split
  · exact progL_len _ _ _ _
  · split
    · exact wipeZ_len _ _ _ _
    · rfl
theorem cycG_len (gs : List Bool) (st : Int) (k : Nat) : (cycG gs st k).length = gs.length := by
  unfold cycG
  split
  · exact List.length_set
  · rfl
theorem eraseN_range {zs : List Int} {gs : List Bool} (h : ∀ z ∈ zs, 0 ≤ z ∧ z ≤ 255) : ∀ n, ∀ z ∈ eraseN zs gs n, 0 ≤ z ∧ z ≤ 255
  | 0 => h
  | n + 1 => eraseL_range (eraseN_range h n)
theorem wipeZ_range {zs : List Int} {gs : List Bool} {k v : Nat} (h : ∀ z ∈ zs, 0 ≤ z ∧ z ≤ 255) : ∀ z ∈ wipeZ zs gs k v, 0 ≤ z ∧ z ≤ 255 := by
  unfold wipeZ
  split
  · split
    · exact eraseN_range h 16
    · exact h
  · split
    · exact eraseL_range h
    · exact h
theorem cycZ_range {zs : List Int} {gs : List Bool} {st : Int} {k v : Nat} (h : ∀ z ∈ zs, 0 ≤ z ∧ z ≤ 255) (hv : v < 256) : ∀ z ∈ cycZ zs gs st k v, 0 ≤ z ∧ z ≤ 255 := by
  unfold cycZ
  split
  · exact progL_range h hv
  · split
    · exact wipeZ_range h
    · exact h
theorem nextS_in (st k v : Int) : 0 ≤ nextS st k v ∧ nextS st k v ≤ 8 := by
  unfold nextS cmdS
  split
  · split <;> omega
  · split
    · split <;> omega
    · split
      · split
        · split
          · omega
          · split
            · omega
            · split
              · omega
              · split <;> omega
        · omega
      · split
        · split <;> omega
        · omega

theorem wpStill_load_mid {P : Program} {ops : Array Oper} {w : World} {Q : Act → Prop} {a : Act} {o : Oper} {rest : List Oper} (hgd : o.guard = none) (ty : TypeId) (x : Operand) (ho : o.op = .load ty x)
    (b off : Nat) (hx : a.eval x = .pointer (some ⟨b, off, none⟩)) (cs : List Value) (d : TypeDesc) (hc : w.rangeAt b off cs) (hu : P.underlying ty = some d) (hd : d.isRow = true) (hi : (P.info? ty).map (·.size) = some cs.length)
    (h : wpStill P ops w Q rest (a.put o.dst (.agg cs.toArray))) : wpStill P ops w Q (o :: rest) a :=
  wpStill_step (fun K hK => by
    rw [if_pos (by simp [Region.wanted, hgd])]
    unfold Oper.still execOp
    simp only [ho, hx, Instr.loadAt, Instr.sureAddr, Sem.run_bind, Sem.run_pure, Result.andThen_ok, run_loadVar_mid w b off ty cs d hc hu hd hi]
    rw [Oper.stillUpon_value]
    exact hK _ h)

set_option maxRecDepth 100000 in
set_option maxHeartbeats 8000000 in
theorem chipCycle (k v : Nat) (zs : List Int) (gs : List Bool) (st : Int) (w : World) (hz : zs.length = 256) (hg : gs.length = 16) (hs : 0 ≤ st ∧ st ≤ 8) (hk : k < 256) (hv : v < 256) (hzs : ∀ z ∈ zs, 0 ≤ z ∧ z ≤ 255) :
    Calls Try.prog 130 #[.agg (chipC zs gs st).toArray, .int .i64 k, .int .u8 v] w (GivesChip (cycZ zs gs st k v) (cycG gs st k) (nextS st k v) w) := by
  obtain ⟨X0, Y0, hb0⟩ := two_chips w zs gs st
  have HL := Lib.hid (And.intro hz hg)
  have HIn := Lib.hid infoCx
  obtain ⟨zc, hzc⟩ : ∃ zc, zc = zC.toArray := ⟨_, rfl⟩
  rw [← hzc] at HIn X0 Y0 hb0
  obtain ⟨W1, hW1⟩ : ∃ W1, W1 = (w.alloc (.cells (chipC zs gs st).toArray 108)).alloc (.cells zc 108) := ⟨_, rfl⟩
  have hs1 : W1.heap.size = w.heap.size + 1 + 1 := by rw [hW1]; simp
  rw [← hW1] at X0 Y0 hb0
  have Z0 : BC (W1.alloc (.cells zc 108)) (w.heap.size + 1 + 1) zZ zG 0 := by have := BC.newZ W1; rw [hs1, ← hzc] at this; exact this
  have HLd := Lib.hid (X0.loads hz hg)
  have HSt := Lib.hid (Z0.stores (zs' := zs) (gs' := gs) (st' := st) zZ_len zG_len hz hg)
  obtain ⟨W3, hW3⟩ : ∃ W3, W3 = (W1.alloc (.cells zc 108)).setCells (w.heap.size + 1 + 1) 0 (chipC zs gs st) := ⟨_, rfl⟩
  have X3 : BC W3 w.heap.size zs gs st := by rw [hW3]; exact (X0.alloc _).far' (by omega) _ _
  have Y3 : BC W3 (w.heap.size + 1) zZ zG 0 := by rw [hW3]; exact (Y0.alloc _).far' (by omega) _ _
  have Z3 : BC W3 (w.heap.size + 1 + 1) zs gs st := by rw [hW3]; exact Z0.put (hz.trans zZ_len.symm) (hg.trans zG_len.symm)
  have hb3 : Below w.heap.size w W3 := by rw [hW3]; exact below_setCellsC (bt hb0 (alloc_below _ _)) (by omega) 0 _
  have x2 := X3.state hz hg
  have HLd3 := Lib.hid (X3.loads hz hg)
  have HN := Lib.hid (fun W => chipNext k v zs gs st W hz hg hs)
  have HPr := Lib.hid (fun W => chipProgram k v zs gs st W hz hg hk hv hzs)
  have HWi := Lib.hid (fun W => chipWipe k v zs gs st W hz hg hk hv)
  have HGu := Lib.hid (fun W => chipProtect (k / 16) zs gs st W hz hg (by omega))
  have HPr : Hid (∀ W, Calls Try.prog 132 #[.agg (chipC zs gs st).toArray, .int .i64 k, .int .u8 v] W fun e w' => e = .returned (.agg (chipC (progL zs gs k v) gs st).toArray) ∧ Below W.heap.size W w') := HPr
  have HWi : Hid (∀ W, Calls Try.prog 133 #[.agg (chipC zs gs st).toArray, .int .i64 k, .int .u8 v] W fun e w' => e = .returned (.agg (chipC (wipeZ zs gs k v) gs st).toArray) ∧ Below W.heap.size W w') := HWi
  have HGu : Hid (∀ W, Calls Try.prog 134 #[.agg (chipC zs gs st).toArray, .int .i64 ((k / 16 : Nat) : Int)] W fun e w' => e = .returned (.agg (chipC zs (gs.set (k / 16) true) st).toArray) ∧ Below W.heap.size W w') := HGu
  have HBo := Lib.hid (fun W => blockOf k (by omega) W)
  have HX3 := Lib.hid (And.intro X3 (And.intro Y3 Z3))
  have HB3 := Lib.hid hb3
  generalize hns : nextS st k v = sn at HN
  have HNs := Lib.hid hns
  generalize hc0 : chipC zs gs st = c0 at HLd HSt HLd3 HN HPr HWi HGu hW1 hW3
  have HC0 := Lib.hid hc0
  have HW1 := Lib.hid hW1
  have HW3 := Lib.hid hW3
  have HS1 := Lib.hid hs1
  rw [hW3] at x2
  clear hz hg hs X0 Y0 Z0 hb0 hzc hW1 hs1 hW3 X3 Y3 Z3 hb3 hzs hns hc0
  by_cases h3 : st = 3
  · subst h3
    have HE : Hid (cycZ zs gs 3 k v = progL zs gs k v ∧ cycG gs 3 k = gs) := Lib.hid ⟨by unfold cycZ; rw [if_pos rfl], by unfold cycG; rw [if_neg (by omega)]⟩
    go_enter Try.func130, Try.ntmps130
    obtain ⟨c4, hc4⟩ : ∃ c4, c4 = chipC (progL zs gs k v) (gs) 3 := ⟨_, rfl⟩
    rw [← hc4] at HPr
    have HC4 := Lib.hid hc4
    clear hc4
    go_wp2_with (first
      | (with_reducible refine wpList_alloc_at rfl 108 rfl zc HIn.out (w.heap.size + 1 + 1) HS1.out ?_)
      | (with_reducible refine wpList_alloc_big rfl 108 rfl zc HIn.out ?_)
      | (rw [← HW3.out]; with_reducible refine wpList_load_mid rfl 108 (.tmp 3) rfl w.heap.size 0 rfl c0 _ HLd3.out.range Try.underlying108 rfl HLd3.out.size ?_)
      | (rw [← HW1.out]; with_reducible refine wpList_load_mid rfl 108 (.tmp 3) rfl w.heap.size 0 rfl c0 _ HLd.out.range Try.underlying108 rfl HLd.out.size ?_)
      | (with_reducible refine wpList_store_mid rfl 108 (.tmp 7) (.tmp 8) rfl (w.heap.size + 1 + 1) 0 c0.toArray rfl rfl HSt.out.room HSt.out.size HSt.out.one ?_))
    refine (HPr.out W3).mono ?_
    rintro e w4 ⟨rfl, hb4⟩
    have HS4 := Lib.hid ((HX3.out.2.2.step hb4).stores (zs' := progL zs gs k v) (gs' := gs) (st' := 3) HL.out.1 HL.out.2 (by rw [progL_len]; exact HL.out.1) (HL.out.2))
    rw [← HC4.out] at HS4
    obtain ⟨W5, hW5⟩ : ∃ W5, W5 = w4.setCells (w.heap.size + 1 + 1) 0 c4 := ⟨_, rfl⟩
    have X5 : BC W5 w.heap.size zs gs 3 := by rw [hW5]; exact (HX3.out.1.step hb4).far' (by omega) _ _
    have Y5 : BC W5 (w.heap.size + 1) zZ zG 0 := by rw [hW5]; exact (HX3.out.2.1.step hb4).far' (by omega) _ _
    have Z5 : BC W5 (w.heap.size + 1 + 1) (progL zs gs k v) (gs) 3 := by rw [hW5, HC4.out]; exact (HX3.out.2.2.step hb4).put ((by rw [progL_len]; exact HL.out.1 : _ = 256).trans HL.out.1.symm) ((HL.out.2 : _ = 16).trans HL.out.2.symm)
    have hb5 : Below w.heap.size w W5 := by rw [hW5]; exact below_setCellsC (bt HB3.out hb4) (by omega) 0 _
    have HLd5 := Lib.hid (X5.loads HL.out.1 HL.out.2)
    rw [HC0.out] at HLd5
    have HX5 := Lib.hid (And.intro Y5 Z5)
    have HB5 := Lib.hid hb5
    have HW5 := Lib.hid hW5
    clear x2 hb4 X5 Y5 Z5 hb5 hW5 HX3 HB3 HLd HSt HLd3
    go_wp2_with (first
      | (with_reducible refine wpList_store_mid rfl 108 (.tmp 7) (.tmp 16) rfl (w.heap.size + 1 + 1) 0 c4.toArray rfl rfl HS4.out.room HS4.out.size HS4.out.one ?_)
      | (rw [← HW5.out]; with_reducible refine wpList_load_mid rfl 108 (.tmp 3) rfl w.heap.size 0 rfl c0 _ HLd5.out.range Try.underlying108 rfl HLd5.out.size ?_))
    refine (HN.out W5).mono ?_
    rintro e w6 ⟨rfl, hb6⟩
    have HZ6 := Lib.hid (HX5.out.2.step hb6)
    have HY6 := Lib.hid (HX5.out.1.step hb6)
    have hbz := bt HB5.out hb6
    clear hb6 HX5 HB5 HW5 HLd5
    have c6 := HZ6.out.state (by rw [progL_len]; exact HL.out.1) (HL.out.2)
    have c6z := HZ6.out.frozen 272
    have hZ7 := HZ6.out.setS (by rw [progL_len]; exact HL.out.1) (HL.out.2) sn
    have hY7 := HY6.out.far (p := ⟨w.heap.size + 1 + 1, 272, none⟩) (by show w.heap.size + 1 ≠ w.heap.size + 1 + 1; omega) (.int .i64 sn)
    have HH := Lib.hid (hZ7.hands hY7 (by rw [progL_len]; exact HL.out.1) (HL.out.2) zZ_len zG_len)
    generalize hc7 : chipC (progL zs gs k v) (gs) sn = c7 at HH
    have HC7 := Lib.hid hc7
    clear hZ7 hY7 hc7
    go_wp2_with (first
      | (with_reducible refine wpList_load_mid rfl 108 (.tmp 7) rfl (w.heap.size + 1 + 1) 0 rfl c7 _ HH.out.range Try.underlying108 rfl HH.out.size ?_)
      | (with_reducible refine wpList_store_mid rfl 108 (.tmp 6) (.tmp 34) rfl (w.heap.size + 1) 0 c7.toArray rfl rfl HH.out.room HH.out.size' HH.out.one ?_))
    refine bodyPost_ret (v := .agg c7.toArray) (results_cellC Try.results130 (by rfl) HH.out.back) rfl ?_
    exact ⟨by rw [HE.out.1, HE.out.2, HC7.out], below_setCellsC (hbz.setCell (p := ⟨w.heap.size + 1 + 1, 272, none⟩) (by show w.heap.size ≤ w.heap.size + 1 + 1; omega) _) (by omega) 0 c7⟩
  by_cases h6 : st = 6
  · subst h6
    clear h3
    have HE : Hid (cycZ zs gs 6 k v = wipeZ zs gs k v ∧ cycG gs 6 k = gs) := Lib.hid ⟨by unfold cycZ; rw [if_neg (by omega), if_pos rfl], by unfold cycG; rw [if_neg (by omega)]⟩
    go_enter Try.func130, Try.ntmps130
    obtain ⟨c4, hc4⟩ : ∃ c4, c4 = chipC (wipeZ zs gs k v) (gs) 6 := ⟨_, rfl⟩
    rw [← hc4] at HWi
    have HC4 := Lib.hid hc4
    clear hc4
    go_wp2_with (first
      | (with_reducible refine wpList_alloc_at rfl 108 rfl zc HIn.out (w.heap.size + 1 + 1) HS1.out ?_)
      | (with_reducible refine wpList_alloc_big rfl 108 rfl zc HIn.out ?_)
      | (rw [← HW3.out]; with_reducible refine wpList_load_mid rfl 108 (.tmp 3) rfl w.heap.size 0 rfl c0 _ HLd3.out.range Try.underlying108 rfl HLd3.out.size ?_)
      | (rw [← HW1.out]; with_reducible refine wpList_load_mid rfl 108 (.tmp 3) rfl w.heap.size 0 rfl c0 _ HLd.out.range Try.underlying108 rfl HLd.out.size ?_)
      | (with_reducible refine wpList_store_mid rfl 108 (.tmp 7) (.tmp 8) rfl (w.heap.size + 1 + 1) 0 c0.toArray rfl rfl HSt.out.room HSt.out.size HSt.out.one ?_))
    refine (HWi.out W3).mono ?_
    rintro e w4 ⟨rfl, hb4⟩
    have HS4 := Lib.hid ((HX3.out.2.2.step hb4).stores (zs' := wipeZ zs gs k v) (gs' := gs) (st' := 6) HL.out.1 HL.out.2 (by rw [wipeZ_len]; exact HL.out.1) (HL.out.2))
    rw [← HC4.out] at HS4
    obtain ⟨W5, hW5⟩ : ∃ W5, W5 = w4.setCells (w.heap.size + 1 + 1) 0 c4 := ⟨_, rfl⟩
    have X5 : BC W5 w.heap.size zs gs 6 := by rw [hW5]; exact (HX3.out.1.step hb4).far' (by omega) _ _
    have Y5 : BC W5 (w.heap.size + 1) zZ zG 0 := by rw [hW5]; exact (HX3.out.2.1.step hb4).far' (by omega) _ _
    have Z5 : BC W5 (w.heap.size + 1 + 1) (wipeZ zs gs k v) (gs) 6 := by rw [hW5, HC4.out]; exact (HX3.out.2.2.step hb4).put ((by rw [wipeZ_len]; exact HL.out.1 : _ = 256).trans HL.out.1.symm) ((HL.out.2 : _ = 16).trans HL.out.2.symm)
    have hb5 : Below w.heap.size w W5 := by rw [hW5]; exact below_setCellsC (bt HB3.out hb4) (by omega) 0 _
    have HLd5 := Lib.hid (X5.loads HL.out.1 HL.out.2)
    rw [HC0.out] at HLd5
    have HX5 := Lib.hid (And.intro Y5 Z5)
    have HB5 := Lib.hid hb5
    have HW5 := Lib.hid hW5
    clear x2 hb4 X5 Y5 Z5 hb5 hW5 HX3 HB3 HLd HSt HLd3
    go_wp2_with (first
      | (with_reducible refine wpList_store_mid rfl 108 (.tmp 7) (.tmp 22) rfl (w.heap.size + 1 + 1) 0 c4.toArray rfl rfl HS4.out.room HS4.out.size HS4.out.one ?_)
      | (rw [← HW5.out]; with_reducible refine wpList_load_mid rfl 108 (.tmp 3) rfl w.heap.size 0 rfl c0 _ HLd5.out.range Try.underlying108 rfl HLd5.out.size ?_))
    refine (HN.out W5).mono ?_
    rintro e w6 ⟨rfl, hb6⟩
    have HZ6 := Lib.hid (HX5.out.2.step hb6)
    have HY6 := Lib.hid (HX5.out.1.step hb6)
    have hbz := bt HB5.out hb6
    clear hb6 HX5 HB5 HW5 HLd5
    have c6 := HZ6.out.state (by rw [wipeZ_len]; exact HL.out.1) (HL.out.2)
    have c6z := HZ6.out.frozen 272
    have hZ7 := HZ6.out.setS (by rw [wipeZ_len]; exact HL.out.1) (HL.out.2) sn
    have hY7 := HY6.out.far (p := ⟨w.heap.size + 1 + 1, 272, none⟩) (by show w.heap.size + 1 ≠ w.heap.size + 1 + 1; omega) (.int .i64 sn)
    have HH := Lib.hid (hZ7.hands hY7 (by rw [wipeZ_len]; exact HL.out.1) (HL.out.2) zZ_len zG_len)
    generalize hc7 : chipC (wipeZ zs gs k v) (gs) sn = c7 at HH
    have HC7 := Lib.hid hc7
    clear hZ7 hY7 hc7
    go_wp2_with (first
      | (with_reducible refine wpList_load_mid rfl 108 (.tmp 7) rfl (w.heap.size + 1 + 1) 0 rfl c7 _ HH.out.range Try.underlying108 rfl HH.out.size ?_)
      | (with_reducible refine wpList_store_mid rfl 108 (.tmp 6) (.tmp 34) rfl (w.heap.size + 1) 0 c7.toArray rfl rfl HH.out.room HH.out.size' HH.out.one ?_))
    refine bodyPost_ret (v := .agg c7.toArray) (results_cellC Try.results130 (by rfl) HH.out.back) rfl ?_
    exact ⟨by rw [HE.out.1, HE.out.2, HC7.out], below_setCellsC (hbz.setCell (p := ⟨w.heap.size + 1 + 1, 272, none⟩) (by show w.heap.size ≤ w.heap.size + 1 + 1; omega) _) (by omega) 0 c7⟩
  by_cases h8 : st = 8
  · subst h8
    clear h3 h6
    have HE : Hid (cycZ zs gs 8 k v = zs ∧ cycG gs 8 k = gs.set (k / 16) true) := Lib.hid ⟨by unfold cycZ; rw [if_neg (by omega), if_neg (by omega)], by unfold cycG; rw [if_pos rfl]⟩
    go_enter Try.func130, Try.ntmps130
    obtain ⟨c4, hc4⟩ : ∃ c4, c4 = chipC (zs) (gs.set (k / 16) true) 8 := ⟨_, rfl⟩
    rw [← hc4] at HGu
    have HC4 := Lib.hid hc4
    clear hc4
    have h6 : Below W3.heap.size W3 W3.drew := (Below.refl _ _).drew
    have HLd3' := Lib.hid ((BC.step HX3.out.1 h6).loads HL.out.1 HL.out.2)
    rw [HC0.out] at HLd3'
    go_wp2_with (first
      | (with_reducible refine wpList_alloc_at rfl 108 rfl zc HIn.out (w.heap.size + 1 + 1) HS1.out ?_)
      | (with_reducible refine wpList_alloc_big rfl 108 rfl zc HIn.out ?_)
      | (rw [← HW3.out]; with_reducible refine wpList_load_mid rfl 108 (.tmp 3) rfl w.heap.size 0 rfl c0 _ HLd3.out.range Try.underlying108 rfl HLd3.out.size ?_)
      | (rw [← HW1.out]; with_reducible refine wpList_load_mid rfl 108 (.tmp 3) rfl w.heap.size 0 rfl c0 _ HLd.out.range Try.underlying108 rfl HLd.out.size ?_)
      | (with_reducible refine wpList_store_mid rfl 108 (.tmp 7) (.tmp 8) rfl (w.heap.size + 1 + 1) 0 c0.toArray rfl rfl HSt.out.room HSt.out.size HSt.out.one ?_))
    rw [← HW3.out]
    refine wp_region_still_tail 3 (by kernel_rfl) (by kernel_rfl) ?_
    simp only [List.take_succ_cons, List.take_zero, List.drop_succ_cons, List.drop_zero]
    refine wpStill_load_mid rfl 108 (.tmp 3) rfl w.heap.size 0 rfl c0 _ HLd3'.out.range Try.underlying108 rfl HLd3'.out.size ?_
    still_step
    still_call ((HBo.out _).mono fun _ _ ⟨q1, q2⟩ => ⟨q1, q2.symm⟩)
    refine wpStill_nil ?_
    change wpList _ _ _ _ _ W3.drew
    generalize hWd : W3.drew = Wd at h6 HLd3' ⊢
    clear hWd
    clear HLd3'
    go_wp2_with fail
    refine (HGu.out Wd).mono ?_
    rintro e w4 ⟨rfl, hb4'⟩
    have hb4 := bt h6 hb4'
    clear h6 hb4'
    have HS4 := Lib.hid ((HX3.out.2.2.step hb4).stores (zs' := zs) (gs' := gs.set (k / 16) true) (st' := 8) HL.out.1 HL.out.2 (HL.out.1) (by rw [List.length_set]; exact HL.out.2))
    rw [← HC4.out] at HS4
    obtain ⟨W5, hW5⟩ : ∃ W5, W5 = w4.setCells (w.heap.size + 1 + 1) 0 c4 := ⟨_, rfl⟩
    have X5 : BC W5 w.heap.size zs gs 8 := by rw [hW5]; exact (HX3.out.1.step hb4).far' (by omega) _ _
    have Y5 : BC W5 (w.heap.size + 1) zZ zG 0 := by rw [hW5]; exact (HX3.out.2.1.step hb4).far' (by omega) _ _
    have Z5 : BC W5 (w.heap.size + 1 + 1) (zs) (gs.set (k / 16) true) 8 := by rw [hW5, HC4.out]; exact (HX3.out.2.2.step hb4).put ((HL.out.1 : _ = 256).trans HL.out.1.symm) ((by rw [List.length_set]; exact HL.out.2 : _ = 16).trans HL.out.2.symm)
    have hb5 : Below w.heap.size w W5 := by rw [hW5]; exact below_setCellsC (bt HB3.out hb4) (by omega) 0 _
    have HLd5 := Lib.hid (X5.loads HL.out.1 HL.out.2)
    rw [HC0.out] at HLd5
    have HX5 := Lib.hid (And.intro Y5 Z5)
    have HB5 := Lib.hid hb5
    have HW5 := Lib.hid hW5
    clear x2 hb4 X5 Y5 Z5 hb5 hW5 HX3 HB3 HLd HSt HLd3
    go_wp2_with (first
      | (with_reducible refine wpList_store_mid rfl 108 (.tmp 7) (.tmp 28) rfl (w.heap.size + 1 + 1) 0 c4.toArray rfl rfl HS4.out.room HS4.out.size HS4.out.one ?_)
      | (rw [← HW5.out]; with_reducible refine wpList_load_mid rfl 108 (.tmp 3) rfl w.heap.size 0 rfl c0 _ HLd5.out.range Try.underlying108 rfl HLd5.out.size ?_))
    refine (HN.out W5).mono ?_
    rintro e w6 ⟨rfl, hb6⟩
    have HZ6 := Lib.hid (HX5.out.2.step hb6)
    have HY6 := Lib.hid (HX5.out.1.step hb6)
    have hbz := bt HB5.out hb6
    clear hb6 HX5 HB5 HW5 HLd5
    have c6 := HZ6.out.state (HL.out.1) (by rw [List.length_set]; exact HL.out.2)
    have c6z := HZ6.out.frozen 272
    have hZ7 := HZ6.out.setS (HL.out.1) (by rw [List.length_set]; exact HL.out.2) sn
    have hY7 := HY6.out.far (p := ⟨w.heap.size + 1 + 1, 272, none⟩) (by show w.heap.size + 1 ≠ w.heap.size + 1 + 1; omega) (.int .i64 sn)
    have HH := Lib.hid (hZ7.hands hY7 (HL.out.1) (by rw [List.length_set]; exact HL.out.2) zZ_len zG_len)
    generalize hc7 : chipC (zs) (gs.set (k / 16) true) sn = c7 at HH
    have HC7 := Lib.hid hc7
    clear hZ7 hY7 hc7
    go_wp2_with (first
      | (with_reducible refine wpList_load_mid rfl 108 (.tmp 7) rfl (w.heap.size + 1 + 1) 0 rfl c7 _ HH.out.range Try.underlying108 rfl HH.out.size ?_)
      | (with_reducible refine wpList_store_mid rfl 108 (.tmp 6) (.tmp 34) rfl (w.heap.size + 1) 0 c7.toArray rfl rfl HH.out.room HH.out.size' HH.out.one ?_))
    refine bodyPost_ret (v := .agg c7.toArray) (results_cellC Try.results130 (by rfl) HH.out.back) rfl ?_
    exact ⟨by rw [HE.out.1, HE.out.2, HC7.out], below_setCellsC (hbz.setCell (p := ⟨w.heap.size + 1 + 1, 272, none⟩) (by show w.heap.size ≤ w.heap.size + 1 + 1; omega) _) (by omega) 0 c7⟩
  have q3 : (st == 3) = false := by simp [h3]
  have q6 : (st == 6) = false := by simp [h6]
  have q8 : (st == 8) = false := by simp [h8]
  have HE : Hid (cycZ zs gs st k v = zs ∧ cycG gs st k = gs) := Lib.hid ⟨by unfold cycZ; rw [if_neg h3, if_neg h6], by unfold cycG; rw [if_neg h8]⟩
  clear h3 h6 h8
  go_enter Try.func130, Try.ntmps130
  go_wp2_with (first
    | (with_reducible refine wpList_alloc_at rfl 108 rfl zc HIn.out (w.heap.size + 1 + 1) HS1.out ?_)
    | (with_reducible refine wpList_alloc_big rfl 108 rfl zc HIn.out ?_)
    | (rw [← HW3.out]; with_reducible refine wpList_load_mid rfl 108 (.tmp 3) rfl w.heap.size 0 rfl c0 _ HLd3.out.range Try.underlying108 rfl HLd3.out.size ?_)
    | (rw [← HW1.out]; with_reducible refine wpList_load_mid rfl 108 (.tmp 3) rfl w.heap.size 0 rfl c0 _ HLd.out.range Try.underlying108 rfl HLd.out.size ?_)
    | (with_reducible refine wpList_store_mid rfl 108 (.tmp 7) (.tmp 8) rfl (w.heap.size + 1 + 1) 0 c0.toArray rfl rfl HSt.out.room HSt.out.size HSt.out.one ?_))
  refine (HN.out W3).mono ?_
  rintro e w6 ⟨rfl, hb6⟩
  have HZ6 := Lib.hid (HX3.out.2.2.step hb6)
  have HY6 := Lib.hid (HX3.out.2.1.step hb6)
  have hbz := bt HB3.out hb6
  clear hb6 HX3 HB3 x2 HLd HSt HLd3
  have c6 := HZ6.out.state (HL.out.1) (HL.out.2)
  have c6z := HZ6.out.frozen 272
  have hZ7 := HZ6.out.setS (HL.out.1) (HL.out.2) sn
  have hY7 := HY6.out.far (p := ⟨w.heap.size + 1 + 1, 272, none⟩) (by show w.heap.size + 1 ≠ w.heap.size + 1 + 1; omega) (.int .i64 sn)
  have HH := Lib.hid (hZ7.hands hY7 (HL.out.1) (HL.out.2) zZ_len zG_len)
  generalize hc7 : chipC (zs) (gs) sn = c7 at HH
  have HC7 := Lib.hid hc7
  clear hZ7 hY7 hc7
  go_wp2_with (first
    | (with_reducible refine wpList_load_mid rfl 108 (.tmp 7) rfl (w.heap.size + 1 + 1) 0 rfl c7 _ HH.out.range Try.underlying108 rfl HH.out.size ?_)
    | (with_reducible refine wpList_store_mid rfl 108 (.tmp 6) (.tmp 34) rfl (w.heap.size + 1) 0 c7.toArray rfl rfl HH.out.room HH.out.size' HH.out.one ?_))
  refine bodyPost_ret (v := .agg c7.toArray) (results_cellC Try.results130 (by rfl) HH.out.back) rfl ?_
  exact ⟨by rw [HE.out.1, HE.out.2, HC7.out], below_setCellsC (hbz.setCell (p := ⟨w.heap.size + 1 + 1, 272, none⟩) (by show w.heap.size ≤ w.heap.size + 1 + 1; omega) _) (by omega) 0 c7⟩
end Go.Proofs.Ytagdclbpgkilgaa

/- The memory bus in plain words: which memories are valid, the regions, what a read gives and a write leaves. -/
namespace Go.Proofs.Ytagdclbpgkilgaa
open Go.RowKit

def okMem (r i : List Int) (zs : List Int) (gs : List Bool) (st : Int) : Bool := (decide (r.length = 256) && decide (i.length = 32)) && ((r.all byB && i.all byB) && okFlash zs gs st)
def adB (a : Int) : Bool := decide (0 ≤ a ∧ a ≤ 4095)
def regR (a : Int) : Int := if a < 256 then 1 else if a < 288 then 2 else if 512 ≤ a ∧ a ≤ 767 then 3 else 0
def regK (a : Int) : Int := if a < 256 then a else if a < 288 then a - 256 else if 512 ≤ a ∧ a ≤ 767 then a - 512 else 0
theorem adB_range {a : Int} (h : adB a = true) : 0 ≤ a ∧ a ≤ 4095 := by unfold adB at h; simpa using h
theorem adB_of {a : Int} (h : 0 ≤ a ∧ a ≤ 4095) : adB a = true := by unfold adB; simpa using h
theorem all_bytes {zs : List Int} (h : zs.all byB = true) : ∀ z ∈ zs, 0 ≤ z ∧ z ≤ 255 := fun z hz => byB_range (List.all_eq_true.1 h z hz)
theorem okMem_len {r i zs : List Int} {gs : List Bool} {st : Int} (h : okMem r i zs gs st = true) : r.length = 256 ∧ i.length = 32 ∧ r.all byB = true ∧ i.all byB = true ∧ okFlash zs gs st = true := by
  unfold okMem at h
  simp only [Bool.and_eq_true, decide_eq_true_eq] at h
  exact ⟨h.1.1, h.1.2, h.2.1.1, h.2.1.2, h.2.2⟩
theorem okMem_mk {r i zs : List Int} {gs : List Bool} {st : Int} (h1 : r.length = 256) (h2 : i.length = 32) (h3 : r.all byB = true) (h4 : i.all byB = true) (h5 : okFlash zs gs st = true) : okMem r i zs gs st = true := by
  unfold okMem; simp [h1, h2, h3, h4, h5]
theorem okMem_no1 (r i zs : List Int) (gs : List Bool) (st : Int) (h : r.length ≠ 256) : okMem r i zs gs st = false := by unfold okMem; simp [h]
theorem okMem_no2 (r i zs : List Int) (gs : List Bool) (st : Int) (h : i.length ≠ 32) : okMem r i zs gs st = false := by unfold okMem; simp [h]
theorem okMem_no3 (r i zs : List Int) (gs : List Bool) (st : Int) (h : r.all byB = false) : okMem r i zs gs st = false := by unfold okMem; simp [h]
theorem okMem_no4 (r i zs : List Int) (gs : List Bool) (st : Int) (h : i.all byB = false) : okMem r i zs gs st = false := by unfold okMem; simp [h]
theorem okMem_yes (r i zs : List Int) (gs : List Bool) (st : Int) (h1 : r.length = 256) (h2 : i.length = 32) (h3 : r.all byB = true) (h4 : i.all byB = true) : okMem r i zs gs st = okFlash zs gs st := by unfold okMem; simp [h1, h2, h3, h4]

/-- What is read at an address. -/
def getV (r i zs : List Int) (gs : List Bool) (rd : List Int → List Bool → Int → Nat → Int) (st a : Int) : Int :=
  if regR a = 1 then r.getD (regK a).toNat 0 else if regR a = 2 then i.getD (regK a).toNat 0 else if regR a = 3 then rd zs gs st (regK a).toNat else 255
/-- The memory behind a write. -/
def putR (r : List Int) (a v : Int) : List Int := if regR a = 1 then r.set (regK a).toNat v else r
def putI (i : List Int) (a v : Int) : List Int := if regR a = 2 ∧ 0 < regK a then i.set (regK a).toNat v else i
def putZ (zs : List Int) (gs : List Bool) (st a v : Int) : List Int := if regR a = 3 then cycZ zs gs st (regK a).toNat v.toNat else zs
def putG (gs : List Bool) (st a : Int) : List Bool := if regR a = 3 then cycG gs st (regK a).toNat else gs
def putS (st a v : Int) : Int := if regR a = 3 then nextS st (regK a) v else st
theorem putR_len (r : List Int) (a v : Int) : (putR r a v).length = r.length := by unfold putR; split <;> simp
theorem putI_len (i : List Int) (a v : Int) : (putI i a v).length = i.length := by unfold putI; split <;> simp
theorem putZ_len (zs : List Int) (gs : List Bool) (st a v : Int) : (putZ zs gs st a v).length = zs.length := by unfold putZ; split <;> simp [cycZ_len]
theorem putG_len (gs : List Bool) (st a : Int) : (putG gs st a).length = gs.length := by unfold putG; split <;> simp [cycG_len]

/-- The four ways of an address. -/
theorem reg_ways (k : Nat) (hk : k < 4096) : (k < 256 ∧ regR k = 1 ∧ regK k = k) ∨ (256 ≤ k ∧ k < 288 ∧ regR k = 2 ∧ regK k = ((k - 256 : Nat) : Int)) ∨ (512 ≤ k ∧ k < 768 ∧ regR k = 3 ∧ regK k = ((k - 512 : Nat) : Int)) ∨ (288 ≤ k ∧ (k < 512 ∨ 768 ≤ k) ∧ regR k = 0 ∧ regK k = 0) := by
  unfold regR regK
  by_cases h1 : k < 256
  · left; rw [if_pos (by omega), if_pos (by omega)]; exact ⟨h1, rfl, rfl⟩
  · right
    by_cases h2 : k < 288
    · left; rw [if_neg (by omega), if_pos (by omega), if_neg (by omega), if_pos (by omega)]; exact ⟨by omega, h2, rfl, by omega⟩
    · right
      by_cases h3 : 512 ≤ k ∧ k < 768
      · left; rw [if_neg (by omega), if_neg (by omega), if_pos (by omega), if_neg (by omega), if_neg (by omega), if_pos (by omega)]; exact ⟨h3.1, h3.2, rfl, by omega⟩
      · right; rw [if_neg (by omega), if_neg (by omega), if_neg (by omega), if_neg (by omega), if_neg (by omega), if_neg (by omega)]; exact ⟨by omega, by omega, rfl, rfl⟩
end Go.Proofs.Ytagdclbpgkilgaa

/- Contracts of Flash.identify, l01Bit, l03Read and both BusRead. -/
namespace Go.Proofs.Ytagdclbpgkilgaa
open Go.RowKit

def readV (zs : List Int) (gs : List Bool) (st : Int) (n : Nat) : Int :=
  if st = 7 then (if n % 4 = 0 then 32 else if n % 4 = 1 then 47 else if n % 4 = 2 then (if gs.getD (n / 16) false then 1 else 0) else 255) else zs.getD n 0
def readOf (zs : List Int) (gs : List Bool) (st a : Int) : Int × Int :=
  if okFlash zs gs st then (if byB a then (readV zs gs st a.toNat, 0) else (0, 4)) else (0, 1)

theorem quiet_same' {P : Program} {f : FuncId} {args : Array Value} {w : World} {n : Nat} {v : Value}
    (h : Calls P f args (w.drewN n) fun e w' => e = .returned v ∧ w.drewN n = w') : Calls P f args (w.drewN n) fun e w' => e = .returned v ∧ ∃ m, w' = w.drewN m :=
  h.mono fun _ _ ⟨he, hw⟩ => ⟨he, n, hw.symm⟩

set_option maxRecDepth 100000 in
theorem l01Bit (q : Bool) (w : World) : Calls Try.prog 103 #[.bool q] w fun e w' => e = .returned (.int .i64 (if q then 1 else 0)) ∧ w = w' := by
  cases q <;> (go_enter Try.func103, Try.ntmps103; go_wp2; go_ret; exact ⟨rfl, rfl⟩)

set_option maxRecDepth 100000 in
theorem l03Read (A C : Option Addr) (n c d k : Nat) (st : Int) (zs : List Int) (gs : List Bool) (w : World) (hl : zs.length = n) (hn : n = 256) (hm : gs.length = 16) (hk : k ≤ 255) (h : IntL w A zs) (g : BoolL w C gs) :
    Calls Try.prog 100 #[.agg #[.slice A n c, .slice C 16 d, .int .i64 st], .int .i64 k] w fun e w' => e = .returned (.int .i64 (readV zs gs st k)) ∧ Below w.heap.size w w' := by
  have hb0 := alloc_below w (.cells #[.slice A n c, .slice C 16 d, .int .i64 st] 26)
  have hdiv : k / 16 < 16 := by omega
  have hki : (k : Int) < (n : Int) := by omega
  by_cases h7 : st = 7
  · subst h7
    obtain ⟨b, off, rfl, hc⟩ := (g.below hb0) (k / 16) (by omega)
    have HR : Hid (∀ q, q = gs.getD (k / 16) false → readV zs gs 7 k = if k % 4 = 0 then 32 else if k % 4 = 1 then 47 else if k % 4 = 2 then (if q then 1 else 0) else 255) := Lib.hid (by intro q hq; subst hq; unfold readV; rw [if_pos rfl])
    generalize readV zs gs 7 k = r at HR
    have HR2 := Lib.hid (HR.out _ rfl)
    generalize gs.getD (k / 16) false = q at hc HR2
    have h4 : k % 4 = 0 ∨ k % 4 = 1 ∨ k % 4 = 2 ∨ k % 4 = 3 := by omega
    have ha := and_3 k (by omega)
    have hdi : ((k / 16 : Nat) : Int) < 16 := by omega
    clear hm g HR hl hn h
    rcases h4 with h4 | h4 | h4 | h4
    · have e : r = 32 := by rw [HR2.out, if_pos h4]
      rw [h4] at ha
      clear HR2 h4
      subst e
      go_enter Try.func100, Try.ntmps100
      go_wp2
      go_ret
      exact ⟨rfl, hb0⟩
    · have e : r = 47 := by rw [HR2.out, if_neg (by omega), if_pos h4]
      rw [h4] at ha
      clear HR2 h4
      subst e
      go_enter Try.func100, Try.ntmps100
      go_wp2
      go_ret
      exact ⟨rfl, hb0⟩
    · have e : r = if q then 1 else 0 := by rw [HR2.out, if_neg (by omega), if_neg (by omega), if_pos h4]
      rw [h4] at ha
      have HE := Lib.hid e
      clear HR2 h4 e
      cases q <;> (
        go_enter Try.func100, Try.ntmps100
        go_wp2_with (first | (go_at_call 103; refine (l01Bit _ _).mono ?_; rintro e w' ⟨rfl, rfl⟩))
        go_ret
        exact ⟨ret_int HE.out.symm, hb0⟩)
    · have e : r = 255 := by rw [HR2.out, if_neg (by omega), if_neg (by omega), if_neg (by omega)]
      rw [h4] at ha
      clear HR2 h4
      subst e
      go_enter Try.func100, Try.ntmps100
      go_wp2
      go_ret
      exact ⟨rfl, hb0⟩
  · have hq7 : (st != 7) = true := by simp [h7]
    obtain ⟨b, off, rfl, hc⟩ := (h.below hb0) k (by omega)
    have HE : Hid (readV zs gs st k = zs.getD k 0) := Lib.hid (by unfold readV; rw [if_neg h7])
    generalize readV zs gs st k = r at HE
    generalize zs.getD k 0 = z at hc HE
    clear hm g hl hn h h7
    go_enter Try.func100, Try.ntmps100
    go_wp2
    go_ret
    exact ⟨ret_int HE.out.symm, hb0⟩

theorem readOf_bad (zs : List Int) (gs : List Bool) (st a : Int) (h : okFlash zs gs st = false) : readOf zs gs st a = (0, 1) := by unfold readOf; simp [h]
theorem readOf_range (zs : List Int) (gs : List Bool) (st a : Int) (h : okFlash zs gs st = true) (h2 : byB a = false) : readOf zs gs st a = (0, 4) := by unfold readOf; simp [h, h2]
theorem readOf_ok (zs : List Int) (gs : List Bool) (st : Int) (k : Nat) (h : okFlash zs gs st = true) (h2 : byB k = true) : readOf zs gs st k = (readV zs gs st k, 0) := by unfold readOf; simp [h, h2]
theorem readV_7 (zs : List Int) (gs : List Bool) (k : Nat) : readV zs gs 7 k = readV [] gs 7 k := by unfold readV; rw [if_pos rfl, if_pos rfl]

end Go.Proofs.Ytagdclbpgkilgaa
