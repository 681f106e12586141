/- Texts of this claim, one behind the other: Table, Table2. -/
import Derived.Test.YtcchhbkbnbphhaaSettleW
import Derived.Test.YtcchhbkbnbphhaaM9
/- The program's tables: tableOf, changes, with, list. Written by gen_table.py. -/
namespace Go.Proofs.Ytcchhbkbnbphhaa
open Go.RowKit

theorem splice_all' {α : Type} (l m : List α) (h : l.length = m.length) : splice l 0 m = m := by
  unfold splice
  rw [List.take_zero, List.nil_append, Nat.zero_add, ← h, List.drop_length, List.append_nil]
set_option maxRecDepth 100000 in
theorem szInt1 : (Try.prog.info? 3).map (·.size) = some 1 := by kernel_rfl
theorem cellsI_one (zs : List Int) : ∀ v ∈ cellsI zs, v.oneCell' = true := fun v hv => by unfold cellsI at hv; obtain ⟨q, _, rfl⟩ := List.mem_map.1 hv; rfl

set_option maxRecDepth 100000 in
set_option maxHeartbeats 2000000 in
theorem tableOfS (A : Option Addr) (c : Nat) (ps : List ByteArray) (w : World) (hl : ps.length = 17) (h : StrL w A ps) :
    Calls Try.prog 60 #[.slice A 17 c] w fun e w' => e = .returned (.agg (cellsS ps).toArray) ∧ Below w.heap.size w w' := by
  obtain ⟨W0, hW0⟩ : ∃ W0, W0 = ((w.alloc (.cells #[.string ⟨#[]⟩, .string ⟨#[]⟩, .string ⟨#[]⟩, .string ⟨#[]⟩, .string ⟨#[]⟩, .string ⟨#[]⟩, .string ⟨#[]⟩, .string ⟨#[]⟩, .string ⟨#[]⟩, .string ⟨#[]⟩, .string ⟨#[]⟩, .string ⟨#[]⟩, .string ⟨#[]⟩, .string ⟨#[]⟩, .string ⟨#[]⟩, .string ⟨#[]⟩, .string ⟨#[]⟩] 56)).alloc (.cells #[.string ⟨#[]⟩, .string ⟨#[]⟩, .string ⟨#[]⟩, .string ⟨#[]⟩, .string ⟨#[]⟩, .string ⟨#[]⟩, .string ⟨#[]⟩, .string ⟨#[]⟩, .string ⟨#[]⟩, .string ⟨#[]⟩, .string ⟨#[]⟩, .string ⟨#[]⟩, .string ⟨#[]⟩, .string ⟨#[]⟩, .string ⟨#[]⟩, .string ⟨#[]⟩, .string ⟨#[]⟩] 56)) := ⟨_, rfl⟩
  have hb0 : Below w.heap.size w W0 := by rw [hW0]; exact bt (alloc_below _ _) (alloc_below _ _)
  have hX : Box W0 w.heap.size 56 #[.string ⟨#[]⟩, .string ⟨#[]⟩, .string ⟨#[]⟩, .string ⟨#[]⟩, .string ⟨#[]⟩, .string ⟨#[]⟩, .string ⟨#[]⟩, .string ⟨#[]⟩, .string ⟨#[]⟩, .string ⟨#[]⟩, .string ⟨#[]⟩, .string ⟨#[]⟩, .string ⟨#[]⟩, .string ⟨#[]⟩, .string ⟨#[]⟩, .string ⟨#[]⟩, .string ⟨#[]⟩] := by rw [hW0]; exact (Box.new _ _ _).alloc _
  have HG : Hid (W0.heap[w.heap.size + 1]? = some (.cells (List.replicate 17 (.string ⟨#[]⟩ : Value)).toArray 56 (0, 0))) := Lib.hid (by
    have : Box W0 (w.heap.size + 1) 56 #[.string ⟨#[]⟩, .string ⟨#[]⟩, .string ⟨#[]⟩, .string ⟨#[]⟩, .string ⟨#[]⟩, .string ⟨#[]⟩, .string ⟨#[]⟩, .string ⟨#[]⟩, .string ⟨#[]⟩, .string ⟨#[]⟩, .string ⟨#[]⟩, .string ⟨#[]⟩, .string ⟨#[]⟩, .string ⟨#[]⟩, .string ⟨#[]⟩, .string ⟨#[]⟩, .string ⟨#[]⟩] := by rw [hW0]; simpa using Box.new (w.alloc (.cells #[.string ⟨#[]⟩, .string ⟨#[]⟩, .string ⟨#[]⟩, .string ⟨#[]⟩, .string ⟨#[]⟩, .string ⟨#[]⟩, .string ⟨#[]⟩, .string ⟨#[]⟩, .string ⟨#[]⟩, .string ⟨#[]⟩, .string ⟨#[]⟩, .string ⟨#[]⟩, .string ⟨#[]⟩, .string ⟨#[]⟩, .string ⟨#[]⟩, .string ⟨#[]⟩, .string ⟨#[]⟩] 56)) 56 #[.string ⟨#[]⟩, .string ⟨#[]⟩, .string ⟨#[]⟩, .string ⟨#[]⟩, .string ⟨#[]⟩, .string ⟨#[]⟩, .string ⟨#[]⟩, .string ⟨#[]⟩, .string ⟨#[]⟩, .string ⟨#[]⟩, .string ⟨#[]⟩, .string ⟨#[]⟩, .string ⟨#[]⟩, .string ⟨#[]⟩, .string ⟨#[]⟩, .string ⟨#[]⟩, .string ⟨#[]⟩]
    exact this)
  obtain ⟨Z, hZ⟩ : ∃ Z : List Value, Z = List.replicate 17 (.string ⟨#[]⟩ : Value) := ⟨_, rfl⟩
  rw [← hZ] at HG
  have HZ : Hid (Z.length = 17) := Lib.hid (by rw [hZ, List.length_replicate])
  clear hZ
  have HN : Hid ((cellsS ps).length = 17) := Lib.hid (by rw [cellsS_len]; exact hl)
  have HSrc := Lib.hid (fun q => (h.below hb0).src (by first | exact q | omega))
  have HX := Lib.hid hX
  have HW0 := Lib.hid hW0
  have HR0 : Hid (Below (w.heap.size + 1) W0 W0) := Lib.hid (Below.refl _ _)
  clear hl h hW0 hX
  go_enter Try.func60, Try.ntmps60
  go_wp2_with (rw [← HW0.out]; with_reducible refine wpList_copy_splice rfl (.tmp 4) (.tmp 5) 23 23 rfl 9 Try.underlying23 szStr _ _ 17 17 17 c rfl rfl (w.heap.size + 1) 0 Z 56 HG.out (cellsS ps) ?h1 ?h2 ?h3 ?h4 (w.heap.size + 1) W0 HR0.out (Nat.le_refl _) ?_)
  case h1 => rw [HN.out]; rfl
  case h2 => first | exact fun q => ⟨rfl, HSrc.out (by first | exact q | (have := HN.out; rw [cellsS_len] at this; omega))⟩ | exact fun q => HSrc.out (by first | exact q | (have := HN.out; rw [cellsS_len] at this; omega))
  case h3 => rw [HN.out, HZ.out]; omega
  case h4 => exact cellsS_one ps
  intro w2 hg2 hb2
  have HB2 : Hid (Box w2 (w.heap.size + 1) 56 (cellsS ps).toArray) := Lib.hid (by
    have := hg2.out
    rw [show splice Z 0 (cellsS ps) = cellsS ps from splice_all' _ _ (by rw [HN.out, HZ.out])] at this
    exact this)
  have hX2 := HX.out.below hb2 (by omega)
  have hbz : Below w.heap.size w w2 := hb0.trans (hb2.mono (by omega))
  have HRg : Hid (w2.rangeAt (w.heap.size + 1) 0 (cellsS ps)) := Lib.hid (fun j v hj => by rw [Nat.zero_add]; exact HB2.out.cell j (by simpa using hj))
  have HTh : Hid (w2.there w.heap.size 0 17) := Lib.hid (fun j hj => by
    rw [Nat.zero_add]
    have : (#[.string ⟨#[]⟩, .string ⟨#[]⟩, .string ⟨#[]⟩, .string ⟨#[]⟩, .string ⟨#[]⟩, .string ⟨#[]⟩, .string ⟨#[]⟩, .string ⟨#[]⟩, .string ⟨#[]⟩, .string ⟨#[]⟩, .string ⟨#[]⟩, .string ⟨#[]⟩, .string ⟨#[]⟩, .string ⟨#[]⟩, .string ⟨#[]⟩, .string ⟨#[]⟩, .string ⟨#[]⟩] : Array Value) = Array.replicate 17 (.string ⟨#[]⟩) := rfl
    exact ⟨by rw [hX2.cell j (v := .string ⟨#[]⟩) (by rw [this, Array.getElem?_replicate, if_pos hj])]; rfl, hX2.frozen j⟩)
  have HOn : Hid (∀ v ∈ cellsS ps, v.oneCell' = true) := Lib.hid (cellsS_one ps)
  generalize hcs : cellsS ps = cs at HN HRg HOn
  have HCs := Lib.hid hcs
  have HRs := Lib.hid (World.rangeAt_setCells_same w2 w.heap.size 0 cs (by rw [HN.out]; exact HTh.out))
  have hin : (Try.prog.info? 56).map (·.size) = some cs.length := by rw [HN.out]; kernel_rfl
  have HIn := Lib.hid hin
  have HLd := Lib.hid (run_loadVar_mid (P := Try.prog) (w2.setCells w.heap.size 0 cs) w.heap.size 0 56 cs _ HRs.out Try.underlying56 rfl hin)
  clear hin hcs hX2 hg2 hb2 HB2 HX HSrc HG
  go_wp2_with (first
    | (with_reducible refine wpList_load_mid rfl 56 (.tmp 3) rfl (w.heap.size + 1) 0 rfl cs _ HRg.out Try.underlying56 rfl HIn.out ?_)
    | (with_reducible refine wpList_store_mid rfl 56 (.tmp 2) (.tmp 7) rfl w.heap.size 0 cs.toArray rfl rfl (by simpa [HN.out] using HTh.out) (by simpa using HIn.out) (all_oneCell_toArray HOn.out) ?_))
  refine bodyPost_ret (v := .agg cs.toArray) (results_cell Try.results60 (by rfl) HLd.out) rfl ?_
  exact ⟨by rw [HCs.out], below_setCellsL hbz (Nat.le_refl _) 0 cs⟩
set_option maxRecDepth 100000 in
set_option maxHeartbeats 2000000 in
theorem tableOfI (A : Option Addr) (c : Nat) (ps : List Int) (w : World) (hl : ps.length = 17) (h : IntL w A ps) :
    Calls Try.prog 62 #[.slice A 17 c] w fun e w' => e = .returned (.agg (cellsI ps).toArray) ∧ Below w.heap.size w w' := by
  obtain ⟨W0, hW0⟩ : ∃ W0, W0 = ((w.alloc (.cells #[.int .i64 0, .int .i64 0, .int .i64 0, .int .i64 0, .int .i64 0, .int .i64 0, .int .i64 0, .int .i64 0, .int .i64 0, .int .i64 0, .int .i64 0, .int .i64 0, .int .i64 0, .int .i64 0, .int .i64 0, .int .i64 0, .int .i64 0] 88)).alloc (.cells #[.int .i64 0, .int .i64 0, .int .i64 0, .int .i64 0, .int .i64 0, .int .i64 0, .int .i64 0, .int .i64 0, .int .i64 0, .int .i64 0, .int .i64 0, .int .i64 0, .int .i64 0, .int .i64 0, .int .i64 0, .int .i64 0, .int .i64 0] 88)) := ⟨_, rfl⟩
  have hb0 : Below w.heap.size w W0 := by rw [hW0]; exact bt (alloc_below _ _) (alloc_below _ _)
  have hX : Box W0 w.heap.size 88 #[.int .i64 0, .int .i64 0, .int .i64 0, .int .i64 0, .int .i64 0, .int .i64 0, .int .i64 0, .int .i64 0, .int .i64 0, .int .i64 0, .int .i64 0, .int .i64 0, .int .i64 0, .int .i64 0, .int .i64 0, .int .i64 0, .int .i64 0] := by rw [hW0]; exact (Box.new _ _ _).alloc _
  have HG : Hid (W0.heap[w.heap.size + 1]? = some (.cells (List.replicate 17 (.int .i64 0 : Value)).toArray 88 (0, 0))) := Lib.hid (by
    have : Box W0 (w.heap.size + 1) 88 #[.int .i64 0, .int .i64 0, .int .i64 0, .int .i64 0, .int .i64 0, .int .i64 0, .int .i64 0, .int .i64 0, .int .i64 0, .int .i64 0, .int .i64 0, .int .i64 0, .int .i64 0, .int .i64 0, .int .i64 0, .int .i64 0, .int .i64 0] := by rw [hW0]; simpa using Box.new (w.alloc (.cells #[.int .i64 0, .int .i64 0, .int .i64 0, .int .i64 0, .int .i64 0, .int .i64 0, .int .i64 0, .int .i64 0, .int .i64 0, .int .i64 0, .int .i64 0, .int .i64 0, .int .i64 0, .int .i64 0, .int .i64 0, .int .i64 0, .int .i64 0] 88)) 88 #[.int .i64 0, .int .i64 0, .int .i64 0, .int .i64 0, .int .i64 0, .int .i64 0, .int .i64 0, .int .i64 0, .int .i64 0, .int .i64 0, .int .i64 0, .int .i64 0, .int .i64 0, .int .i64 0, .int .i64 0, .int .i64 0, .int .i64 0]
    exact this)
  obtain ⟨Z, hZ⟩ : ∃ Z : List Value, Z = List.replicate 17 (.int .i64 0 : Value) := ⟨_, rfl⟩
  rw [← hZ] at HG
  have HZ : Hid (Z.length = 17) := Lib.hid (by rw [hZ, List.length_replicate])
  clear hZ
  have HN : Hid ((cellsI ps).length = 17) := Lib.hid (by rw [cellsI_len]; exact hl)
  have HSrc := Lib.hid (fun q => (h.below hb0).src (by first | exact q | omega))
  have HX := Lib.hid hX
  have HW0 := Lib.hid hW0
  have HR0 : Hid (Below (w.heap.size + 1) W0 W0) := Lib.hid (Below.refl _ _)
  clear hl h hW0 hX
  go_enter Try.func62, Try.ntmps62
  go_wp2_with (rw [← HW0.out]; with_reducible refine wpList_copy_splice rfl (.tmp 4) (.tmp 5) 29 29 rfl 3 Try.underlying29 szInt1 _ _ 17 17 17 c rfl rfl (w.heap.size + 1) 0 Z 88 HG.out (cellsI ps) ?h1 ?h2 ?h3 ?h4 (w.heap.size + 1) W0 HR0.out (Nat.le_refl _) ?_)
  case h1 => rw [HN.out]; rfl
  case h2 => first | exact fun q => ⟨rfl, HSrc.out (by first | exact q | (have := HN.out; rw [cellsI_len] at this; omega))⟩ | exact fun q => HSrc.out (by first | exact q | (have := HN.out; rw [cellsI_len] at this; omega))
  case h3 => rw [HN.out, HZ.out]; omega
  case h4 => exact cellsI_one ps
  intro w2 hg2 hb2
  have HB2 : Hid (Box w2 (w.heap.size + 1) 88 (cellsI ps).toArray) := Lib.hid (by
    have := hg2.out
    rw [show splice Z 0 (cellsI ps) = cellsI ps from splice_all' _ _ (by rw [HN.out, HZ.out])] at this
    exact this)
  have hX2 := HX.out.below hb2 (by omega)
  have hbz : Below w.heap.size w w2 := hb0.trans (hb2.mono (by omega))
  have HRg : Hid (w2.rangeAt (w.heap.size + 1) 0 (cellsI ps)) := Lib.hid (fun j v hj => by rw [Nat.zero_add]; exact HB2.out.cell j (by simpa using hj))
  have HTh : Hid (w2.there w.heap.size 0 17) := Lib.hid (fun j hj => by
    rw [Nat.zero_add]
    have : (#[.int .i64 0, .int .i64 0, .int .i64 0, .int .i64 0, .int .i64 0, .int .i64 0, .int .i64 0, .int .i64 0, .int .i64 0, .int .i64 0, .int .i64 0, .int .i64 0, .int .i64 0, .int .i64 0, .int .i64 0, .int .i64 0, .int .i64 0] : Array Value) = Array.replicate 17 (.int .i64 0) := rfl
    exact ⟨by rw [hX2.cell j (v := .int .i64 0) (by rw [this, Array.getElem?_replicate, if_pos hj])]; rfl, hX2.frozen j⟩)
  have HOn : Hid (∀ v ∈ cellsI ps, v.oneCell' = true) := Lib.hid (cellsI_one ps)
  generalize hcs : cellsI ps = cs at HN HRg HOn
  have HCs := Lib.hid hcs
  have HRs := Lib.hid (World.rangeAt_setCells_same w2 w.heap.size 0 cs (by rw [HN.out]; exact HTh.out))
  have hin : (Try.prog.info? 88).map (·.size) = some cs.length := by rw [HN.out]; kernel_rfl
  have HIn := Lib.hid hin
  have HLd := Lib.hid (run_loadVar_mid (P := Try.prog) (w2.setCells w.heap.size 0 cs) w.heap.size 0 88 cs _ HRs.out Try.underlying88 rfl hin)
  clear hin hcs hX2 hg2 hb2 HB2 HX HSrc HG
  go_wp2_with (first
    | (with_reducible refine wpList_load_mid rfl 88 (.tmp 3) rfl (w.heap.size + 1) 0 rfl cs _ HRg.out Try.underlying88 rfl HIn.out ?_)
    | (with_reducible refine wpList_store_mid rfl 88 (.tmp 2) (.tmp 7) rfl w.heap.size 0 cs.toArray rfl rfl (by simpa [HN.out] using HTh.out) (by simpa using HIn.out) (all_oneCell_toArray HOn.out) ?_))
  refine bodyPost_ret (v := .agg cs.toArray) (results_cell Try.results62 (by rfl) HLd.out) rfl ?_
  exact ⟨by rw [HCs.out], below_setCellsL hbz (Nat.le_refl _) 0 cs⟩
end Go.Proofs.Ytcchhbkbnbphhaa

/- The program's tables: changes, with, list. -/
namespace Go.Proofs.Ytcchhbkbnbphhaa
open Go.RowKit

theorem cellsI_set (zs : List Int) (p : Nat) (x : Int) : (cellsI zs).set p (.int .i64 x) = cellsI (zs.set p x) := by unfold cellsI; rw [List.map_set]
theorem cellsI_at (zs : List Int) (p : Nat) (h : p < zs.length) : (cellsI zs)[p]? = some (.int .i64 (zs.getD p 0)) := by
  unfold cellsI; rw [List.getElem?_map, List.getD_eq_getElem?_getD, List.getElem?_eq_getElem h]; rfl
theorem cellsS_at (ss : List ByteArray) (p : Nat) (h : p < ss.length) : (cellsS ss)[p]? = some (.string (ss.getD p ByteArray.empty)) := by
  unfold cellsS; rw [List.getElem?_map, List.getD_eq_getElem?_getD, List.getElem?_eq_getElem h]; rfl
theorem wpList_app_gro {ops : Array Oper} {rest : List Oper} {o : Oper} {a : Act} {Q : Exit → Act → World → Prop} {cs : Array Value} {W : World} (hgd : o.guard = none) (s x : Operand)
    (ho : o.op = .call { callee := .builtin .append, args := #[s, x], argTypes := #[29, 29] }) (base : Nat) (A' : Option Addr) (k c' : Nat) (zs : List Int) (hr : W.ownsRow base 3 1 (.slice A' k c') k (zs.map (Value.int .i64))) (us : List Int) (hcs : cs = (us.map (Value.int .i64)).toArray) (m d : Nat) (hm : us.length = m)
    (hs : a.eval s = .slice A' k c') (hx : a.eval x = .slice (some ⟨W.heap.size, 0, none⟩) m d) (hk : k + m ≤ 1000) (hbase : base ≤ W.heap.size)
    (h : ∀ A2 c2 w2, Hid (w2.ownsRow base 3 1 (.slice A2 (k + m) c2) (k + m) ((zs ++ us).map (Value.int .i64))) → Below base W w2 → wpList Try.prog ops Q rest (a.put o.dst (.slice A2 (k + m) c2)) w2) : wpList Try.prog ops Q (o :: rest) a (W.alloc (.cells cs 3)) := by
  have hba := alloc_below W (.cells cs 3)
  have hX := Box.new W 3 cs
  refine wpList_app_many hgd s x 29 3 ho (.int .i64 0) 1 8 elemInt Try.underlying29 base (.slice A' k c') k (zs.map (Value.int .i64)) hs (rowv_below hr hba) ⟨W.heap.size, 0, none⟩ m d hx (us.map (Value.int .i64)) (by simp [hm]) (fun j u hj => ?_) (fun u hu => ?_) (by unfold maxLen; omega) (by omega) (by have := hba.size; omega) (fun A2 c2 w2 hR _ _ hb => ?_)
  · rw [addr_add, Nat.zero_add]; exact hX.cell j (by rw [hcs]; simpa using hj)
  · obtain ⟨z, _, rfl⟩ := List.mem_map.1 hu; rfl
  · exact h A2 c2 w2 (Lib.hid (by rw [List.map_append]; exact hR)) ((hba.mono hbase).trans hb)

def GivesRowI (zs : List Int) (w : World) (e : Ending) (w' : World) : Prop :=
  ∃ A c, e = .returned (.slice A zs.length c) ∧ Hid (OwnI w' w.heap.size w'.heap.size A zs) ∧ Below w.heap.size w w'

set_option maxRecDepth 100000 in
set_option maxHeartbeats 4000000 in
theorem tabChanges (ps ld : List ByteArray) (w : World) (hp : ps.length = 17) (hl : ld.length = 17) :
    Calls Try.prog 61 #[.agg (cellsS ps).toArray, .agg (cellsS ld).toArray] w (GivesRowI (diffN ps ld 17) w) := by
  obtain ⟨W0, hW0⟩ : ∃ W0, W0 = ((w.alloc (.cells (cellsS ps).toArray 56)).alloc (.cells (cellsS ld).toArray 56)) := ⟨_, rfl⟩
  have hb0 : Below w.heap.size w W0 := by rw [hW0]; exact bt (alloc_below _ _) (alloc_below _ _)
  have X0 : Hid (Box W0 w.heap.size 56 (cellsS ps).toArray) := Lib.hid (by rw [hW0]; exact (Box.new _ _ _).alloc _)
  have Y0 : Hid (Box W0 (w.heap.size + 1) 56 (cellsS ld).toArray) := Lib.hid (by rw [hW0]; simpa using Box.new (w.alloc (.cells (cellsS ps).toArray 56)) 56 (cellsS ld).toArray)
  have hs0 : w.heap.size + 2 ≤ W0.heap.size := by rw [hW0]; simp
  have HL := Lib.hid (And.intro hp hl)
  have HW0 := Lib.hid hW0
  generalize hcp : cellsS ps = cp at X0 HW0
  generalize hcl : cellsS ld = cl at Y0 HW0
  have HCp := Lib.hid hcp
  have HCl := Lib.hid hcl
  clear hp hl hW0 hcp hcl
  go_enter Try.func61, Try.ntmps61
  go_wp2
  rw [← HW0.out]
  go_loopw [5, 7] (fun s q wr => ∃ (k m : Nat) (A' : Option Addr) (c' : Nat), k ≤ 17 ∧ q = .int .i64 k ∧ s = .slice A' m c' ∧ Below w.heap.size w wr ∧ Hid (Box wr w.heap.size 56 cp.toArray) ∧ Hid (Box wr (w.heap.size + 1) 56 cl.toArray) ∧ Hid ((diffN ps ld k).length = m ∧ wr.ownsRow (w.heap.size + 2) 3 1 (.slice A' m c') m ((diffN ps ld k).map (Value.int .i64)) ∧ w.heap.size + 2 ≤ wr.heap.size)) (fun _ q _ => 17 - (intOf q).toNat)
  case atStart => exact ⟨0, 0, none, 0, by omega, rfl, rfl, hb0, X0, Y0, Lib.hid ⟨rfl, rowv_nil _ _ _ _, hs0⟩⟩
  case round =>
    clear X0 Y0 hb0 hs0 HW0
    obtain ⟨k, m, A', c', hk, rfl, rfl, hbw, X, Y, G⟩ := hrel
    by_cases hlt : k < 17
    · have hi : (k : Int) < 17 := by omega
      have hx := X.out.cell k (by rw [List.getElem?_toArray, ← HCp.out]; exact cellsS_at ps k (by rw [HL.out.1]; exact hlt))
      have hy := Y.out.cell k (by rw [List.getElem?_toArray, ← HCl.out]; exact cellsS_at ld k (by rw [HL.out.2]; exact hlt))
      have HSt : Hid (diffN ps ld (k + 1) = if ps.getD k ByteArray.empty = ld.getD k ByteArray.empty then diffN ps ld k else diffN ps ld k ++ [(k : Int)]) := Lib.hid rfl
      have hm17 : m ≤ 17 := by have := diffN_len ps ld k; have := G.out.1; omega
      generalize ps.getD k ByteArray.empty = x at hx HSt
      generalize ld.getD k ByteArray.empty = y at hy HSt
      have hq := bytes_beq x y
      by_cases hE : x = y
      · have hq1 : (x.toList == y.toList) = true := by rw [hq]; simp [hE]
        have HE := Lib.hid hE
        clear hq hE
        go_wp2
        go_quiet (fail)
        go_wp2
        go_roundw
        case rel =>
          refine ⟨k + 1, m, A', c', by omega, by go_num, rfl, below_drewN hbw _, Lib.hid X.out, Lib.hid Y.out, Lib.hid ?_⟩
          rw [HSt.out, if_pos HE.out]; exact G.out
        case measure => simp [intOf]; omega
      · have hq1 : (x.toList == y.toList) = false := by rw [hq]; simp [hE]
        have HE := Lib.hid hE
        clear hq hE
        have HB : Hid (w.heap.size + 2 ≤ wr.heap.size) := Lib.hid G.out.2.2
        go_wp2
        go_quiet (fail)
        go_wp2_with (at_builtin; refine wpList_app_gro rfl (.tmp 17) (.tmp 19) rfl (w.heap.size + 2) A' m c' (diffN ps ld k) ?hr [_] rfl 1 1 rfl rfl rfl (by omega) ?hb ?_)
        case hr => exact G.out.2.1
        case hb => exact HB.out
        intro A2 c2 w2 hR2 hb2
        have hb2' : Below (w.heap.size + 2) wr w2 := (below_drewN (Below.refl _ _) _).trans hb2
        have X2 := Lib.hid (X.out.below hb2' (by omega))
        have Y2 := Lib.hid (Y.out.below hb2' (by omega))
        have hbz : Below w.heap.size w w2 := hbw.trans (hb2'.mono (by omega))
        have HSz : Hid (w.heap.size + 2 ≤ w2.heap.size) := Lib.hid (by have := HB.out; have := hb2'.size; omega)
        have HG2 : Hid ((diffN ps ld (k + 1)).length = m + 1 ∧ w2.ownsRow (w.heap.size + 2) 3 1 (.slice A2 (m + 1) c2) (m + 1) ((diffN ps ld (k + 1)).map (Value.int .i64)) ∧ w.heap.size + 2 ≤ w2.heap.size) := Lib.hid (by
          rw [HSt.out, if_neg HE.out]
          exact ⟨by rw [List.length_append, G.out.1]; rfl, by rw [List.map_append]; simpa using hR2.out, HSz.out⟩)
        clear hx hy hb2 hb2' hR2 X Y G hbw HSt
        go_wp2
        go_roundw
        case rel => exact ⟨k + 1, m + 1, A2, c2, by omega, by go_num, rfl, hbz, X2, Y2, HG2⟩
        case measure => simp [intOf]; omega
    · obtain rfl : k = 17 := by omega
      have HO : Hid (OwnI wr w.heap.size wr.heap.size A' (diffN ps ld 17)) := Lib.hid (GroI.own (base := w.heap.size + 2) (n := m) (c := c') (by unfold GroI; rw [G.out.1]; exact G.out.2.1) (by omega))
      have HM : Hid (m = (diffN ps ld 17).length) := Lib.hid G.out.1.symm
      clear X Y G
      go_wp2
      go_ret
      exact ⟨A', c', congrArg (fun m => Ending.returned (Value.slice A' m c')) HM.out, HO, hbw⟩

set_option maxRecDepth 100000 in
set_option maxHeartbeats 4000000 in
theorem tabWith (zs places free : List Int) (P F : Option Addr) (m cm nf cf : Nat) (w : World) (hz : zs.length = 17) (hm : places.length = m) (hm17 : m ≤ 17) (hp : ∀ p ∈ places, 0 ≤ p ∧ p < 17) (hf : free.length = nf) (hnf : m ≤ nf) (hnf2 : nf ≤ 100) (h : IntL w P places) (g : IntL w F free) :
    Calls Try.prog 63 #[.agg (cellsI zs).toArray, .slice P m cm, .slice F nf cf] w fun e w' => e = .returned (.agg (cellsI (withN zs places free m)).toArray) ∧ Below w.heap.size w w' := by
  obtain ⟨W0, hW0⟩ : ∃ W0, W0 = ((w.alloc (.cells (cellsI zs).toArray 88)).alloc (.cells #[.int .i64 0, .int .i64 0, .int .i64 0, .int .i64 0, .int .i64 0, .int .i64 0, .int .i64 0, .int .i64 0, .int .i64 0, .int .i64 0, .int .i64 0, .int .i64 0, .int .i64 0, .int .i64 0, .int .i64 0, .int .i64 0, .int .i64 0] 88)) := ⟨_, rfl⟩
  have hb0 : Below w.heap.size w W0 := by rw [hW0]; exact bt (alloc_below _ _) (alloc_below _ _)
  have X0 : Hid (Box W0 w.heap.size 88 (cellsI zs).toArray) := Lib.hid (by rw [hW0]; exact (Box.new _ _ _).alloc _)
  have Y0 : Hid (Box W0 (w.heap.size + 1) 88 #[.int .i64 0, .int .i64 0, .int .i64 0, .int .i64 0, .int .i64 0, .int .i64 0, .int .i64 0, .int .i64 0, .int .i64 0, .int .i64 0, .int .i64 0, .int .i64 0, .int .i64 0, .int .i64 0, .int .i64 0, .int .i64 0, .int .i64 0]) := Lib.hid (by rw [hW0]; simpa using Box.new (w.alloc (.cells (cellsI zs).toArray 88)) 88 #[.int .i64 0, .int .i64 0, .int .i64 0, .int .i64 0, .int .i64 0, .int .i64 0, .int .i64 0, .int .i64 0, .int .i64 0, .int .i64 0, .int .i64 0, .int .i64 0, .int .i64 0, .int .i64 0, .int .i64 0, .int .i64 0, .int .i64 0])
  have HL := Lib.hid (And.intro hz (And.intro hm (And.intro hp (And.intro hf (And.intro h g)))))
  have HW0 := Lib.hid hW0
  generalize hcz : cellsI zs = cz at HW0
  clear hz hm hp hf h g hW0
  go_enter Try.func63, Try.ntmps63
  go_wp2
  rw [← HW0.out]
  go_loopw [11] (fun q wr => ∃ j : Nat, j ≤ m ∧ q = .int .i64 j ∧ Below w.heap.size w wr ∧ Hid (Box wr w.heap.size 88 (cellsI (withN zs places free j)).toArray) ∧ Hid (Box wr (w.heap.size + 1) 88 #[.int .i64 0, .int .i64 0, .int .i64 0, .int .i64 0, .int .i64 0, .int .i64 0, .int .i64 0, .int .i64 0, .int .i64 0, .int .i64 0, .int .i64 0, .int .i64 0, .int .i64 0, .int .i64 0, .int .i64 0, .int .i64 0, .int .i64 0])) (fun q _ => m - (intOf q).toNat)
  case atStart => exact ⟨0, by omega, rfl, hb0, X0, Y0⟩
  case round =>
    clear X0 Y0 hb0 HW0 hcz
    obtain ⟨j, hj, rfl, hbw, X, Y⟩ := hrel
    by_cases hlt : j < m
    · have hi : (j : Int) < (m : Int) := by omega
      have hi2 : (j : Int) < (nf : Int) := by omega
      obtain ⟨pb, poff, rfl, hc⟩ := (HL.out.2.2.2.2.1.below hbw) j (by rw [HL.out.2.1]; exact hlt)
      obtain ⟨fb, foff, rfl, hd⟩ := (HL.out.2.2.2.2.2.below hbw) j (by rw [HL.out.2.2.2.1]; omega)
      have hpr : 0 ≤ places.getD j 0 ∧ places.getD j 0 < 17 := HL.out.2.2.1 _ (by rw [List.getD_eq_getElem?_getD, List.getElem?_eq_getElem (by rw [HL.out.2.1]; exact hlt)]; exact List.getElem_mem _)
      have HSt : Hid (withN zs places free (j + 1) = (withN zs places free j).set (places.getD j 0).toNat (free.getD j 0)) := Lib.hid rfl
      obtain ⟨p, hpe⟩ : ∃ p : Nat, places.getD j 0 = p := ⟨(places.getD j 0).toNat, by omega⟩
      rw [hpe] at hc hpr HSt
      rw [Int.toNat_natCast] at HSt
      have hp17 : (p : Int) < 17 := hpr.2
      have hpn : p < 17 := by omega
      generalize free.getD j 0 = v at hd HSt
      have hx := X.out.cell p (by rw [List.getElem?_toArray]; exact cellsI_at _ p (by rw [withN_len, HL.out.1]; exact hpn))
      have hxz := X.out.frozen p
      generalize (withN zs places free j).getD p 0 = y at hx
      have X2 : Hid (Box (wr.setCell ⟨w.heap.size, p, none⟩ (.int .i64 v)) w.heap.size 88 (cellsI (withN zs places free (j + 1))).toArray) := Lib.hid (by
        have := X.out.set p (.int .i64 v)
        rw [List.setIfInBounds_toArray, cellsI_set, ← HSt.out] at this
        exact this)
      have Y2 := Lib.hid (Y.out.far (p := ⟨w.heap.size, p, none⟩) (by show w.heap.size + 1 ≠ w.heap.size; omega) (.int .i64 v))
      have hb2 : Below w.heap.size w (wr.setCell ⟨w.heap.size, p, none⟩ (.int .i64 v)) := hbw.setCell (p := ⟨w.heap.size, p, none⟩) (Nat.le_refl _) _
      clear X Y hbw HSt hpe
      go_wp2
      go_roundw
      case rel => exact ⟨j + 1, by omega, by go_num, hb2, X2, Y2⟩
      case measure => simp [intOf]; omega
    · obtain rfl : j = m := by omega
      have HN : Hid ((cellsI (withN zs places free j)).length = 17) := Lib.hid (by rw [cellsI_len, withN_len]; exact HL.out.1)
      have HRg : Hid (wr.rangeAt w.heap.size 0 (cellsI (withN zs places free j))) := Lib.hid (fun i v hi => by rw [Nat.zero_add]; exact X.out.cell i (by simpa using hi))
      have HTh : Hid (wr.there (w.heap.size + 1) 0 17) := Lib.hid (fun i hi => by
        rw [Nat.zero_add]
        have : (#[.int .i64 0, .int .i64 0, .int .i64 0, .int .i64 0, .int .i64 0, .int .i64 0, .int .i64 0, .int .i64 0, .int .i64 0, .int .i64 0, .int .i64 0, .int .i64 0, .int .i64 0, .int .i64 0, .int .i64 0, .int .i64 0, .int .i64 0] : Array Value) = Array.replicate 17 (.int .i64 0) := rfl
        exact ⟨by rw [Y.out.cell i (v := .int .i64 0) (by rw [this, Array.getElem?_replicate, if_pos hi])]; rfl, Y.out.frozen i⟩)
      have HOn : Hid (∀ v ∈ cellsI (withN zs places free j), v.oneCell' = true) := Lib.hid (cellsI_one _)
      generalize hcs : cellsI (withN zs places free j) = cs at HN HRg HOn
      have HCs := Lib.hid hcs
      have HRs := Lib.hid (World.rangeAt_setCells_same wr (w.heap.size + 1) 0 cs (by rw [HN.out]; exact HTh.out))
      have hin : (Try.prog.info? 88).map (·.size) = some cs.length := by rw [HN.out]; kernel_rfl
      have HIn := Lib.hid hin
      have HLd := Lib.hid (run_loadVar_mid (P := Try.prog) (wr.setCells (w.heap.size + 1) 0 cs) (w.heap.size + 1) 0 88 cs _ HRs.out Try.underlying88 rfl hin)
      clear hin hcs X Y
      go_wp2_with (first
        | (with_reducible refine wpList_load_mid rfl 88 (.tmp 3) rfl w.heap.size 0 rfl cs _ HRg.out Try.underlying88 rfl HIn.out ?_)
        | (with_reducible refine wpList_store_mid rfl 88 (.tmp 6) (.tmp 23) rfl (w.heap.size + 1) 0 cs.toArray rfl rfl (by simpa [HN.out] using HTh.out) (by simpa using HIn.out) (all_oneCell_toArray HOn.out) ?_))
      refine bodyPost_ret (v := .agg cs.toArray) (results_cell Try.results63 (by rfl) HLd.out) rfl ?_
      exact ⟨by rw [HCs.out], below_setCellsL hbw (by omega) 0 cs⟩

set_option maxRecDepth 100000 in
set_option maxHeartbeats 2000000 in
theorem tabListI (zs : List Int) (w : World) (hl : zs.length = 17) :
    Calls Try.prog 64 #[.agg (cellsI zs).toArray] w (GivesRowI zs w) := by
  have hmk : ∀ V : World, (Instr.makeSlice 29 (.int .i64 17) (.int .i64 17)).run Try.prog V = .ok (.slice (some ⟨V.heap.size, 0, none⟩) 17 17) (V.alloc (.cells (madeCells #[.int .i64 0] 17) 3)) := fun V => run_make_row' (P := Try.prog) 29 3 (.int .i64 0) 8 Try.underlying29 infoI rfl .i64 .i64 17 (by omega) (by omega) V
  obtain ⟨Z, hZ⟩ : ∃ Z : List Value, Z.toArray = madeCells #[.int .i64 0] 17 := ⟨(madeCells #[.int .i64 0] 17).toList, by simp⟩
  have HZ : Hid (Z.length = 17) := Lib.hid (by
    have := congrArg Array.size hZ
    simpa [madeCells] using this)
  rw [← hZ] at hmk
  have hb0 : Below w.heap.size w ((w.alloc (.cells (cellsI zs).toArray 88)).alloc (.cells Z.toArray 3)) := bt (alloc_below _ _) (alloc_below _ _)
  have HL := Lib.hid hl
  have HN : Hid ((cellsI zs).length = 17) := Lib.hid (by rw [cellsI_len]; exact hl)
  have hg : Hid (((w.alloc (.cells (cellsI zs).toArray 88)).alloc (.cells Z.toArray 3)).heap[w.heap.size + 1]? = some (.cells Z.toArray 3 (0, 0))) := Lib.hid (by
    have := Box.new (w.alloc (.cells (cellsI zs).toArray 88)) 3 Z.toArray
    rw [World.size_alloc] at this
    exact this)
  have HX : Hid (Box ((w.alloc (.cells (cellsI zs).toArray 88)).alloc (.cells Z.toArray 3)) w.heap.size 88 (cellsI zs).toArray) := Lib.hid ((Box.new _ _ _).alloc _)
  clear hl hZ
  go_enter Try.func64, Try.ntmps64
  go_wp2_with (with_reducible refine wpList_copy_splice rfl (.tmp 5) (.tmp 6) 29 29 rfl 3 Try.underlying29 szInt1 _ _ 17 17 17 17 rfl rfl (w.heap.size + 1) 0 Z 3 hg.out (cellsI zs) ?h1 ?h2 ?h3 ?h4 w.heap.size w hb0 (by omega) ?_)
  case h1 => rw [HN.out]; rfl
  case h3 => rw [HN.out, HZ.out]; omega
  case h4 => exact cellsI_one zs
  intro w2 hg2 hb2
  have HR : Hid (OwnI w2 w.heap.size w2.heap.size (some ⟨w.heap.size + 1, 0, none⟩) zs) := Lib.hid (by
    have := hg2.out
    rw [splice_all' _ _ (by rw [HN.out, HZ.out])] at this
    have hlt : w.heap.size + 1 < w2.heap.size := (Array.getElem?_eq_some_iff.1 this).1
    refine .inr ⟨w.heap.size + 1, 17, fun i => .int .i64 (zs.getD i 0), rfl, by omega, hlt, by rw [HL.out]; omega, ⟨_, this, by simpa using HN.out, fun i hi => ?_⟩, fun i _ => rfl⟩
    rw [List.getElem?_toArray]
    exact cellsI_at zs i (by rw [HL.out]; exact hi))
  clear hg2 hg hmk HX
  go_wp2
  go_ret
  exact ⟨some ⟨w.heap.size + 1, 0, none⟩, 17, congrArg (fun m => Ending.returned (Value.slice (some ⟨w.heap.size + 1, 0, none⟩) m 17)) HL.out.symm, HR, hb2⟩
end Go.Proofs.Ytcchhbkbnbphhaa
