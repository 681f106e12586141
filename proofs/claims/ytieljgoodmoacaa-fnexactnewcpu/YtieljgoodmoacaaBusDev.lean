/- The devices' methods. -/
import Derived.Test.YtieljgoodmoacaaBusOf
import Derived.Test.YtieljgoodmoacaaChipRead
import Derived.Test.YtieljgoodmoacaaCycleOf
import Derived.Handy
namespace Go.Proofs.Ytieljgoodmoacaa
open Go.RowKit

section
variable (p0 p1 p2 p3 : Addr) (w : World)
set_option maxRecDepth 100000 in
theorem busDevice1 : Calls Try.prog 85 #[.agg #[.pointer (some p0), .pointer (some p1), .pointer (some p2), .pointer (some p3)], .int .i64 1] w fun e w' => e = .returned (.iface 71 (.pointer (some p0))) ∧ Below w.heap.size w w' := by
  have hb0 := alloc_below w (.cells #[.pointer (some p0), .pointer (some p1), .pointer (some p2), .pointer (some p3)] 76)
  go_enter Try.func85, Try.ntmps85
  go_wp2
  go_ret
  exact ⟨rfl, hb0⟩
set_option maxRecDepth 100000 in
theorem busDevice2 : Calls Try.prog 85 #[.agg #[.pointer (some p0), .pointer (some p1), .pointer (some p2), .pointer (some p3)], .int .i64 2] w fun e w' => e = .returned (.iface 72 (.pointer (some p1))) ∧ Below w.heap.size w w' := by
  have hb0 := alloc_below w (.cells #[.pointer (some p0), .pointer (some p1), .pointer (some p2), .pointer (some p3)] 76)
  go_enter Try.func85, Try.ntmps85
  go_wp2
  go_ret
  exact ⟨rfl, hb0⟩
set_option maxRecDepth 100000 in
theorem busDevice3 : Calls Try.prog 85 #[.agg #[.pointer (some p0), .pointer (some p1), .pointer (some p2), .pointer (some p3)], .int .i64 3] w fun e w' => e = .returned (.iface 73 (.pointer (some p2))) ∧ Below w.heap.size w w' := by
  have hb0 := alloc_below w (.cells #[.pointer (some p0), .pointer (some p1), .pointer (some p2), .pointer (some p3)] 76)
  go_enter Try.func85, Try.ntmps85
  go_wp2
  go_ret
  exact ⟨rfl, hb0⟩
set_option maxRecDepth 100000 in
theorem busDevice0 : Calls Try.prog 85 #[.agg #[.pointer (some p0), .pointer (some p1), .pointer (some p2), .pointer (some p3)], .int .i64 0] w fun e w' => e = .returned (.iface 74 (.pointer (some p3))) ∧ Below w.heap.size w w' := by
  have hb0 := alloc_below w (.cells #[.pointer (some p0), .pointer (some p1), .pointer (some p2), .pointer (some p3)] 76)
  go_enter Try.func85, Try.ntmps85
  go_wp2
  go_ret
  exact ⟨rfl, hb0⟩
end

set_option maxRecDepth 100000 in
theorem openWrite (p : Addr) (k v : Int) (w : World) : Calls Try.prog 121 #[.pointer (some p), .int .i64 k, .int .i64 v] w fun e w' => e = .returned (.tuple #[]) ∧ w = w' := by
  go_enter Try.func121, Try.ntmps121
  go_wp2
  go_end0
  exact ⟨rfl, rfl⟩

/-- A box of another type that holds a chip's cells. -/
theorem Box.rangeL {w : World} {b : Nat} {t : TypeId} {cs : List Value} (h : Box w b t cs.toArray) : w.rangeAt b 0 cs := fun j v hv => by
  rw [Nat.zero_add]; exact h.cell j (by simpa using hv)
theorem Box.thereL {w : World} {b : Nat} {t : TypeId} {cs : List Value} (h : Box w b t cs.toArray) : w.there b 0 cs.length := fun j hj => by
  rw [Nat.zero_add]
  exact ⟨by rw [h.cell j (by rw [List.getElem?_toArray, List.getElem?_eq_getElem hj])]; rfl, h.frozen j⟩
theorem Box.putL {w : World} {b : Nat} {t : TypeId} {cs cs' : List Value} (h : Box w b t cs.toArray) (hl : cs'.length = cs.length) : Box (w.setCells b 0 cs') b t cs'.toArray := by
  have := setCells_list cs' [] cs h (by rw [hl])
  exact this
theorem btw_setCells {a : World} {b : Nat} : ∀ (cs : List Value) (o : Nat) (w : World), Btw b (b + 1) a w → Btw b (b + 1) a (w.setCells b o cs)
  | [], _, _, h => h
  | v :: vs, o, w, h => btw_setCells vs (o + 1) _ (h.setCell (p := ⟨b, o, none⟩) (Nat.le_refl _) (Nat.lt_succ_self _) v)
theorem OwnI.awayB {w w' : World} {lo hi b : Nat} {A : Option Addr} {zs : List Int} {t : TypeId} {cs : Array Value} (h : OwnI w lo hi A zs) (X : Box w b t cs) (ht : t ≠ 3) (hb : Btw b (b + 1) w w') : OwnI w' lo hi A zs := by
  rcases h with e | ⟨g, m, f, e, h1, h2, hm, hr, hf⟩
  · exact .inl e
  · exact .inr ⟨g, m, f, e, h1, h2, hm, hb.row hr (by have := X.ne hr ht; omega), hf⟩
theorem Box.awayB {w w' : World} {b b' : Nat} {t t' : TypeId} {cs cs' : Array Value} (h : Box w b t cs) (X : Box w b' t' cs') (ht : t ≠ t') (hb : Btw b' (b' + 1) w w') : Box w' b t cs := h.btw hb (by have := h.box_ne X ht; omega)

theorem size_setCells (b : Nat) : ∀ (cs : List Value) (o : Nat) (w : World), (w.setCells b o cs).heap.size = w.heap.size
  | [], _, _ => rfl
  | v :: vs, o, w => (size_setCells b vs (o + 1) _).trans (by simp [World.setCell])
theorem below_setCellsN {n : Nat} {w0 w : World} {b : Nat} (h : Below n w0 w) (hb : n ≤ b) : ∀ (o : Nat) (cs : List Value), Below n w0 (w.setCells b o cs) := by
  intro o cs
  induction cs generalizing w o with
  | nil => exact h
  | cons v vs ih => exact ih (h.setCell (p := ⟨b, o, none⟩) hb v) (o + 1)

section
variable {w w' : World} {lo g b0 b1 b2 b3 : Nat} {A0 A1 : Option Addr} {c0 c1 : Nat} {ram io zs : List Int} {gs : List Bool} {st : Int}
theorem BusAt.step (B : BusAt w lo g b0 b1 b2 b3 A0 A1 c0 c1 ram io zs gs st) (k : Below w.heap.size w w') : BusAt w' lo g b0 b1 b2 b3 A0 A1 c0 c1 ram io zs gs st :=
  ⟨B.r.step k, B.i.step k, B.f.step k, B.o.step k, B.R.below k, (B.I.below k).wideB (Nat.le_refl _) k.size, B.l.1, B.l.2.1, B.l.2.2.1, B.l.2.2.2.1, B.l.2.2.2.2.1, Nat.le_trans B.l.2.2.2.2.2 k.size⟩
/-- What a write leaves of a bus. -/
def Writes (lo g b0 b1 b2 b3 : Nat) (A0 A1 : Option Addr) (c0 c1 : Nat) (ram io zs : List Int) (gs : List Bool) (st : Int) (w : World) (e : Ending) (w' : World) : Prop :=
  e = .returned (.tuple #[]) ∧ Hid (BusAt w' lo g b0 b1 b2 b3 A0 A1 c0 c1 ram io zs gs st) ∧ Hid (∀ b t cs, t ≠ 3 → t ≠ 99 → Box w b t cs → Box w' b t cs) ∧ Below lo w w'
end

section
variable (lo g b0 b1 b2 b3 : Nat) (A0 A1 : Option Addr) (c0 c1 : Nat) (ram io zs : List Int) (gs : List Bool) (st : Int) (w : World)
set_option maxRecDepth 100000 in
theorem workWrite (k : Nat) (v : Int) (hk : k < 256) (hl : ram.length = 256) (B : BusAt w lo g b0 b1 b2 b3 A0 A1 c0 c1 ram io zs gs st) :
    Calls Try.prog 107 #[.pointer (some ⟨b0, 0, none⟩), .int .i64 k, .int .i64 v] w (Writes lo g b0 b1 b2 b3 A0 A1 c0 c1 (ram.set k v) io zs gs st w) := by
  obtain ⟨ba, ma, fa, rfl, hca, hfa, hlo, hhi, hra, hput⟩ := B.R.put k (by omega)
  have hbw : Btw ba (ba + 1) w (w.setCell ⟨ba, k, none⟩ (.int .i64 v)) := (Btw.refl _ _ _).setCell (p := ⟨ba, k, none⟩) (Nat.le_refl _) (Nat.lt_succ_self _) _
  have HB : Hid (BusAt (w.setCell ⟨ba, k, none⟩ (.int .i64 v)) lo g b0 b1 b2 b3 (some ⟨ba, 0, none⟩) A1 c0 c1 (ram.set k v) io zs gs st) := Lib.hid ⟨B.r.other hra (by decide) _ _, B.i.other hra (by decide) _ _, B.f.other hra (by decide) _ _, B.o.other hra (by decide) _ _, hput v, (B.I.btw hbw (.inr (by omega))).wideB (Nat.le_refl _) (by simp [World.setCell]), by simpa [World.setCell] using B.l⟩
  have HW : Hid (Below lo w (w.setCell ⟨ba, k, none⟩ (.int .i64 v))) := Lib.hid ((Below.refl _ _).setCell (p := ⟨ba, k, none⟩) hlo _)
  have HO : Hid (∀ b t cs, t ≠ 3 → t ≠ 99 → Box w b t cs → Box (w.setCell ⟨ba, k, none⟩ (.int .i64 v)) b t cs) := Lib.hid (fun b t cs h _ X => X.other hra h _ _)
  have x0 := B.r.cell 0 rfl
  generalize ram.getD k 0 = x at hca
  have hi : (k : Int) < 256 := by omega
  clear B hput hra hbw hlo hhi hl
  go_enter Try.func107, Try.ntmps107
  go_wp2
  go_end0
  exact ⟨rfl, HB, HO, HW.out⟩
set_option maxRecDepth 100000 in
theorem regsWrite (k : Nat) (v : Int) (hk : k < 32) (h0 : 0 < k) (hl : io.length = 32) (B : BusAt w lo g b0 b1 b2 b3 A0 A1 c0 c1 ram io zs gs st) :
    Calls Try.prog 109 #[.pointer (some ⟨b1, 0, none⟩), .int .i64 k, .int .i64 v] w (Writes lo g b0 b1 b2 b3 A0 A1 c0 c1 ram (io.set k v) zs gs st w) := by
  obtain ⟨ba, ma, fa, rfl, hca, hfa, hlo, hhi, hra, hput⟩ := B.I.put k (by omega)
  have hbw : Btw ba (ba + 1) w (w.setCell ⟨ba, k, none⟩ (.int .i64 v)) := (Btw.refl _ _ _).setCell (p := ⟨ba, k, none⟩) (Nat.le_refl _) (Nat.lt_succ_self _) _
  have HB : Hid (BusAt (w.setCell ⟨ba, k, none⟩ (.int .i64 v)) lo g b0 b1 b2 b3 A0 (some ⟨ba, 0, none⟩) c0 c1 ram (io.set k v) zs gs st) := Lib.hid ⟨B.r.other hra (by decide) _ _, B.i.other hra (by decide) _ _, B.f.other hra (by decide) _ _, B.o.other hra (by decide) _ _, B.R.btw hbw (.inl hlo), (hput v).wideB (Nat.le_refl _) (by simp [World.setCell]), by simpa [World.setCell] using B.l⟩
  have HW : Hid (Below lo w (w.setCell ⟨ba, k, none⟩ (.int .i64 v))) := Lib.hid ((Below.refl _ _).setCell (p := ⟨ba, k, none⟩) (Nat.le_trans B.l.2.2.2.2.1 hlo) _)
  have HO : Hid (∀ b t cs, t ≠ 3 → t ≠ 99 → Box w b t cs → Box (w.setCell ⟨ba, k, none⟩ (.int .i64 v)) b t cs) := Lib.hid (fun b t cs h _ X => X.other hra h _ _)
  have x0 := B.i.cell 0 rfl
  generalize io.getD k 0 = x at hca
  have hi : (k : Int) < 32 := by omega
  have hq : ((k : Int) != 0) = true := by simp; omega
  clear B hput hra hbw hlo hhi hl
  go_enter Try.func109, Try.ntmps109
  go_wp2
  go_end0
  exact ⟨rfl, HB, HO, HW.out⟩
set_option maxRecDepth 100000 in
theorem regsWrite0 (v : Int) (B : BusAt w lo g b0 b1 b2 b3 A0 A1 c0 c1 ram io zs gs st) :
    Calls Try.prog 109 #[.pointer (some ⟨b1, 0, none⟩), .int .i64 0, .int .i64 v] w (Writes lo g b0 b1 b2 b3 A0 A1 c0 c1 ram io zs gs st w) := by
  have HB := Lib.hid B
  clear B
  go_enter Try.func109, Try.ntmps109
  go_wp2
  go_end0
  exact ⟨rfl, HB, Lib.hid (fun _ _ _ _ _ X => X), Below.refl _ _⟩
set_option maxRecDepth 100000 in
set_option maxHeartbeats 1000000 in
theorem cartWrite (k v : Nat) (hz : zs.length = 256) (hg : gs.length = 16) (hs : 0 ≤ st ∧ st ≤ 8) (hk : k < 256) (hv : v < 256) (hzs : ∀ z ∈ zs, 0 ≤ z ∧ z ≤ 255) (B : BusAt w lo g b0 b1 b2 b3 A0 A1 c0 c1 ram io zs gs st) :
    Calls Try.prog 111 #[.pointer (some ⟨b2, 0, none⟩), .int .i64 k, .int .i64 v] w (Writes lo g b0 b1 b2 b3 A0 A1 c0 c1 ram io (cycZ zs gs st k v) (cycG gs st k) (nextS st k v) w) := by
  have HR := Lib.hid (chipCycle k v zs gs st w hz hg hs hk hv hzs)
  unfold GivesChip at HR
  have HL := Lib.hid (And.intro B.f.rangeL (sizeC zs gs st hz hg))
  have HN : Hid (∀ w2, Below w.heap.size w w2 → w2.there b2 0 (chipC (cycZ zs gs st k v) (cycG gs st k) (nextS st k v)).toArray.size ∧ BusAt (w2.setCells b2 0 (chipC (cycZ zs gs st k v) (cycG gs st k) (nextS st k v))) lo g b0 b1 b2 b3 A0 A1 c0 c1 ram io (cycZ zs gs st k v) (cycG gs st k) (nextS st k v) ∧ ∀ b t cs, t ≠ 3 → t ≠ 99 → Box w b t cs → Box (w2.setCells b2 0 (chipC (cycZ zs gs st k v) (cycG gs st k) (nextS st k v))) b t cs) := Lib.hid (fun w2 hb => by
    have X := B.step hb
    have hl : (chipC (cycZ zs gs st k v) (cycG gs st k) (nextS st k v)).length = (chipC zs gs st).length := by rw [chipC_len, chipC_len, cycZ_len, cycG_len]
    have hbw := btw_setCells (chipC (cycZ zs gs st k v) (cycG gs st k) (nextS st k v)) 0 w2 (Btw.refl b2 (b2 + 1) w2)
    have hsz : (w2.setCells b2 0 (chipC (cycZ zs gs st k v) (cycG gs st k) (nextS st k v))).heap.size = w2.heap.size := size_setCells _ _ _ _
    refine ⟨by rw [List.size_toArray, hl]; exact X.f.thereL, ⟨X.r.awayB X.f (by decide) hbw, X.i.awayB X.f (by decide) hbw, X.f.putL hl, X.o.awayB X.f (by decide) hbw, X.R.awayB X.f (by decide) hbw, (X.I.awayB X.f (by decide) hbw).wideB (Nat.le_refl _) (by rw [hsz]; exact Nat.le_refl _), by rw [hsz]; exact X.l⟩, fun b t cs _ h Y => (Y.step hb).awayB X.f h hbw⟩)
  have HS : Hid ((Try.prog.info? 97).map (·.size) = some (chipC (cycZ zs gs st k v) (cycG gs st k) (nextS st k v)).toArray.size ∧ (chipC (cycZ zs gs st k v) (cycG gs st k) (nextS st k v)).toArray.all (·.oneCell') = true) := Lib.hid ⟨(sizeC _ _ _ (by rw [cycZ_len]; exact hz) (by rw [cycG_len]; exact hg)).trans (congrArg some List.size_toArray.symm), all_oneCell_toArray (chipC_one _ _ _)⟩
  have hlo := B.l.2.2.1
  have hbl : Below lo w w := Below.refl _ _
  have HQ : Hid (lo ≤ w.heap.size) := Lib.hid (Nat.le_of_lt (Nat.lt_of_le_of_lt hlo B.f.lt))
  generalize chipC zs gs st = ca at HR HL
  generalize hcb : chipC (cycZ zs gs st k v) (cycG gs st k) (nextS st k v) = cb at HR HN HS
  have hwr := wrap8 (v : Int) (by omega) (by omega)
  have hmd : (v : Int) % 256 = v := by omega
  clear hz hg hs hzs B hcb
  go_enter Try.func111, Try.ntmps111
  go_wp2_with (first
    | (with_reducible refine wpList_load_mid rfl 97 (.tmp 9) rfl b2 0 rfl ca _ HL.out.1 Try.underlying97 rfl HL.out.2 ?_))
  refine HR.out.mono ?_
  rintro e w2 ⟨rfl, hb2⟩
  obtain ⟨hr, hB, hO⟩ := HN.out w2 hb2
  have HRoom := Lib.hid hr
  have HBus := Lib.hid hB
  have HO := Lib.hid hO
  clear hr hB hO HN
  go_wp2_with (first
    | (with_reducible refine wpList_store_mid rfl 97 (.tmp 16) (.tmp 14) rfl b2 0 cb.toArray rfl rfl HRoom.out HS.out.1 HS.out.2 ?_))
  go_end0
  exact ⟨rfl, HBus, HO, (hb2.mono HQ.out).trans (below_setCellsN (Below.refl _ _) hlo 0 cb)⟩
end
end Go.Proofs.Ytieljgoodmoacaa
