/- The contracts of Disk.load, of table[string].list and of impl.LoadPages. -/
import Derived.Test.YtoogaaoknpfkoaaLoadSpec
import Derived.Deep.MidRow
import Derived.Test.YtoogaaoknpfkoaaSettle
namespace Go.Proofs.Ytoogaaoknpfkoaa
open Go.RowKit

theorem below_setCells {w0 w : World} {b : Nat} (h : Below w0.heap.size w0 w) (hb : w0.heap.size ≤ b) : ∀ (o : Nat) (cs : List Value), Below w0.heap.size w0 (w.setCells b o cs) := by
  intro o cs
  induction cs generalizing w o with
  | nil => exact h
  | cons v vs ih => exact ih (h.setCell (p := ⟨b, o, none⟩) hb v) (o + 1)
theorem results_cell {P : Program} {fn : Func} {tmps : Array Value} {w : World} {a : Nat} {t : TypeId} {p : Addr} {v : Value} (h : fn.results = #[.cell a t]) (hp : tmps.getD a undef = .pointer (some p)) (hv : (loadVar t p).run P w = .ok v w) : (results fn tmps).run P w = .ok v w := by
  unfold results
  rw [h]
  simp only [List.mapM_toArray, List.mapM_cons, List.mapM_nil, hp]
  simp [asAddr, hv]
theorem row17 {w : World} {b : Nat} {t : TypeId} (X : Box w b t #[.string ⟨#[]⟩, .string ⟨#[]⟩, .string ⟨#[]⟩, .string ⟨#[]⟩, .string ⟨#[]⟩, .string ⟨#[]⟩, .string ⟨#[]⟩, .string ⟨#[]⟩, .string ⟨#[]⟩, .string ⟨#[]⟩, .string ⟨#[]⟩, .string ⟨#[]⟩, .string ⟨#[]⟩, .string ⟨#[]⟩, .string ⟨#[]⟩, .string ⟨#[]⟩, .string ⟨#[]⟩]) : w.rowIs b t 17 (fun _ => .string ⟨#[]⟩) := by
  refine Box.row X _ (fun i hi => ?_)
  have e : (#[.string ⟨#[]⟩, .string ⟨#[]⟩, .string ⟨#[]⟩, .string ⟨#[]⟩, .string ⟨#[]⟩, .string ⟨#[]⟩, .string ⟨#[]⟩, .string ⟨#[]⟩, .string ⟨#[]⟩, .string ⟨#[]⟩, .string ⟨#[]⟩, .string ⟨#[]⟩, .string ⟨#[]⟩, .string ⟨#[]⟩, .string ⟨#[]⟩, .string ⟨#[]⟩, .string ⟨#[]⟩] : Array Value) = Array.replicate 17 (.string ⟨#[]⟩) := rfl
  rw [e] at hi ⊢
  rw [Array.getElem?_replicate, if_pos (by simpa using hi)]

set_option maxRecDepth 100000 in
set_option maxHeartbeats 4000000 in
theorem diskLoad (A C : Option Addr) (n c m d : Nat) (ss : List ByteArray) (ws : List (Int × ByteArray)) (g : Int) (T : Option Addr) (tc : Nat) (zs : List Int) (w : World) (hl : ss.length = n) (hm : ws.length = m) (hok : okDisk ss ws = true) (h : StrL w A ss) (hw : WrL w C ws) (ht : zs.length = 17) (hz : ∀ z ∈ zs, 0 ≤ z ∧ z ≤ 47) (hT : IntL w T zs) :
    Calls Try.prog 115 #[.agg #[.slice A n c, .slice C m d], .agg #[.int .i64 g, .slice T 17 tc]] w fun e w' => e = .returned (.agg ((loadL ss ws zs).map Value.string).toArray) ∧ Below w.heap.size w w' := by
  have hlen := okDisk_len hok
  have HC := Lib.hid (fun W (hb : Below w.heap.size w W) (k : Nat) (hk : k < 48) => content A C n c m d ss ws k W hl hm (by unfold maxLen; omega) (by unfold maxLen; omega) (h.below hb) (hw.below hb) (by omega))
  have HL := Lib.hid ht
  have HZ := Lib.hid hz
  have HT := Lib.hid hT
  clear hl hm hok h hw ht hz hT hlen
  obtain ⟨W0, hW0⟩ : ∃ W0, W0 = (((w.alloc (.cells #[.slice A n c, .slice C m d] 26)).alloc (.cells #[.int .i64 g, .slice T 17 tc] 57)).alloc (.cells #[.string ⟨#[]⟩, .string ⟨#[]⟩, .string ⟨#[]⟩, .string ⟨#[]⟩, .string ⟨#[]⟩, .string ⟨#[]⟩, .string ⟨#[]⟩, .string ⟨#[]⟩, .string ⟨#[]⟩, .string ⟨#[]⟩, .string ⟨#[]⟩, .string ⟨#[]⟩, .string ⟨#[]⟩, .string ⟨#[]⟩, .string ⟨#[]⟩, .string ⟨#[]⟩, .string ⟨#[]⟩] 114)).alloc (.cells #[.string ⟨#[]⟩, .string ⟨#[]⟩, .string ⟨#[]⟩, .string ⟨#[]⟩, .string ⟨#[]⟩, .string ⟨#[]⟩, .string ⟨#[]⟩, .string ⟨#[]⟩, .string ⟨#[]⟩, .string ⟨#[]⟩, .string ⟨#[]⟩, .string ⟨#[]⟩, .string ⟨#[]⟩, .string ⟨#[]⟩, .string ⟨#[]⟩, .string ⟨#[]⟩, .string ⟨#[]⟩] 114) := ⟨_, rfl⟩
  have hb0 : Below w.heap.size w W0 := by rw [hW0]; exact bt (bt (bt (alloc_below _ _) (alloc_below _ _)) (alloc_below _ _)) (alloc_below _ _)
  have X0 : Hid (Box W0 w.heap.size 26 #[.slice A n c, .slice C m d]) := Lib.hid (by rw [hW0]; exact (((Box.new _ _ _).alloc _).alloc _).alloc _)
  have X2 : Hid (Box W0 (w.heap.size + 1 + 1) 114 #[.string ⟨#[]⟩, .string ⟨#[]⟩, .string ⟨#[]⟩, .string ⟨#[]⟩, .string ⟨#[]⟩, .string ⟨#[]⟩, .string ⟨#[]⟩, .string ⟨#[]⟩, .string ⟨#[]⟩, .string ⟨#[]⟩, .string ⟨#[]⟩, .string ⟨#[]⟩, .string ⟨#[]⟩, .string ⟨#[]⟩, .string ⟨#[]⟩, .string ⟨#[]⟩, .string ⟨#[]⟩]) := Lib.hid (by
    rw [hW0]; exact (by simpa using Box.new ((w.alloc (.cells #[.slice A n c, .slice C m d] 26)).alloc (.cells #[.int .i64 g, .slice T 17 tc] 57)) 114 #[.string ⟨#[]⟩, .string ⟨#[]⟩, .string ⟨#[]⟩, .string ⟨#[]⟩, .string ⟨#[]⟩, .string ⟨#[]⟩, .string ⟨#[]⟩, .string ⟨#[]⟩, .string ⟨#[]⟩, .string ⟨#[]⟩, .string ⟨#[]⟩, .string ⟨#[]⟩, .string ⟨#[]⟩, .string ⟨#[]⟩, .string ⟨#[]⟩, .string ⟨#[]⟩, .string ⟨#[]⟩] : Box (((w.alloc (.cells #[.slice A n c, .slice C m d] 26)).alloc (.cells #[.int .i64 g, .slice T 17 tc] 57)).alloc (.cells #[.string ⟨#[]⟩, .string ⟨#[]⟩, .string ⟨#[]⟩, .string ⟨#[]⟩, .string ⟨#[]⟩, .string ⟨#[]⟩, .string ⟨#[]⟩, .string ⟨#[]⟩, .string ⟨#[]⟩, .string ⟨#[]⟩, .string ⟨#[]⟩, .string ⟨#[]⟩, .string ⟨#[]⟩, .string ⟨#[]⟩, .string ⟨#[]⟩, .string ⟨#[]⟩, .string ⟨#[]⟩] 114)) (w.heap.size + 1 + 1) 114 #[.string ⟨#[]⟩, .string ⟨#[]⟩, .string ⟨#[]⟩, .string ⟨#[]⟩, .string ⟨#[]⟩, .string ⟨#[]⟩, .string ⟨#[]⟩, .string ⟨#[]⟩, .string ⟨#[]⟩, .string ⟨#[]⟩, .string ⟨#[]⟩, .string ⟨#[]⟩, .string ⟨#[]⟩, .string ⟨#[]⟩, .string ⟨#[]⟩, .string ⟨#[]⟩, .string ⟨#[]⟩]).alloc _)
  have X3 : Hid (Box W0 (w.heap.size + 1 + 1 + 1) 114 #[.string ⟨#[]⟩, .string ⟨#[]⟩, .string ⟨#[]⟩, .string ⟨#[]⟩, .string ⟨#[]⟩, .string ⟨#[]⟩, .string ⟨#[]⟩, .string ⟨#[]⟩, .string ⟨#[]⟩, .string ⟨#[]⟩, .string ⟨#[]⟩, .string ⟨#[]⟩, .string ⟨#[]⟩, .string ⟨#[]⟩, .string ⟨#[]⟩, .string ⟨#[]⟩, .string ⟨#[]⟩]) := Lib.hid (by
    rw [hW0]; simpa using Box.new (((w.alloc (.cells #[.slice A n c, .slice C m d] 26)).alloc (.cells #[.int .i64 g, .slice T 17 tc] 57)).alloc (.cells #[.string ⟨#[]⟩, .string ⟨#[]⟩, .string ⟨#[]⟩, .string ⟨#[]⟩, .string ⟨#[]⟩, .string ⟨#[]⟩, .string ⟨#[]⟩, .string ⟨#[]⟩, .string ⟨#[]⟩, .string ⟨#[]⟩, .string ⟨#[]⟩, .string ⟨#[]⟩, .string ⟨#[]⟩, .string ⟨#[]⟩, .string ⟨#[]⟩, .string ⟨#[]⟩, .string ⟨#[]⟩] 114)) 114 #[.string ⟨#[]⟩, .string ⟨#[]⟩, .string ⟨#[]⟩, .string ⟨#[]⟩, .string ⟨#[]⟩, .string ⟨#[]⟩, .string ⟨#[]⟩, .string ⟨#[]⟩, .string ⟨#[]⟩, .string ⟨#[]⟩, .string ⟨#[]⟩, .string ⟨#[]⟩, .string ⟨#[]⟩, .string ⟨#[]⟩, .string ⟨#[]⟩, .string ⟨#[]⟩, .string ⟨#[]⟩])
  have R2 := Lib.hid (row17 X2.out)
  have R3 := Lib.hid (row17 X3.out)
  have HW0 := Lib.hid hW0
  clear hW0 X2 X3
  go_enter Try.func115, Try.ntmps115
  go_wp2
  rw [← HW0.out]
  clear HW0
  go_loopw [11] (fun i wr => ∃ k : Nat, k ≤ 17 ∧ i = .int .i64 k ∧ Below w.heap.size w wr ∧ Hid (Box wr w.heap.size 26 #[.slice A n c, .slice C m d]) ∧ Hid (wr.rowIs (w.heap.size + 1 + 1) 114 17 (fun _ => .string ⟨#[]⟩)) ∧ Hid (wr.rowIs (w.heap.size + 1 + 1 + 1) 114 17 (fun i => if i < k then .string ((loadL ss ws zs).getD i ByteArray.empty) else .string ⟨#[]⟩))) (fun i _ => 17 - (intOf i).toNat)
  case atStart => exact ⟨0, by omega, rfl, hb0, X0, R2, Lib.hid (R3.out.congr (fun i _ => by simp))⟩
  case round =>
    clear hb0 X0 R2 R3
    obtain ⟨k, hk, rfl, hbw, X0, R2, R3⟩ := hrel
    by_cases hlt : k < 17
    · obtain ⟨tb, toff, rfl, hc⟩ := (HT.out.below hbw) k (by rw [HL.out]; exact hlt)
      have hzk : 0 ≤ zs.getD k 0 ∧ zs.getD k 0 ≤ 47 := HZ.out _ (by rw [List.getD_eq_getElem?_getD, List.getElem?_eq_getElem (by rw [HL.out]; exact hlt)]; exact List.getElem_mem _)
      have HSt : Hid ((loadL ss ws zs).getD k ByteArray.empty = readS ss ws (zs.getD k 0)) := Lib.hid (by unfold loadL; rw [List.getD_eq_getElem?_getD, List.getElem?_map, List.getElem?_eq_getElem (by rw [HL.out]; exact hlt), List.getD_eq_getElem?_getD, List.getElem?_eq_getElem (by rw [HL.out]; exact hlt)]; rfl)
      generalize zs.getD k 0 = z at hc hzk HSt
      obtain ⟨zn, rfl⟩ : ∃ zn : Nat, z = zn := ⟨z.toNat, by omega⟩
      have HCk := Lib.hid (HC.out wr hbw zn (by omega))
      generalize readS ss ws (zn : Int) = s at HCk HSt
      have f0 := X0.out.cell 0 rfl
      have f1 := X0.out.cell 1 rfl
      have hi : (k : Int) < 17 := by omega
      go_wp2_with fail
      refine HCk.out.mono ?_
      rintro e w1 ⟨rfl, hb1⟩
      have Q3 := row_below hb1 R3.out R3.out.lt
      have Q2 := Lib.hid (row_below hb1 R2.out R2.out.lt)
      have Y0 := Lib.hid (X0.out.step hb1)
      have y0 := Q3.cell (i := k) hlt
      have y1 := Q3.frozen k
      simp only [Nat.lt_irrefl, if_false] at y0
      have HS3 := Lib.hid (Q3.set k (.string s))
      have hbz := bt hbw hb1
      clear f0 f1 hc Q3 R2 R3 X0
      go_wp2
      go_roundw
      case rel =>
        refine ⟨k + 1, by omega, by go_num, hbz.setCell (by show w.heap.size ≤ w.heap.size + 1 + 1 + 1; omega) _, Lib.hid (Y0.out.far (by show w.heap.size ≠ w.heap.size + 1 + 1 + 1; omega) _), Lib.hid (Q2.out.setOther (a := ⟨w.heap.size + 1 + 1 + 1, k, none⟩) (by show w.heap.size + 1 + 1 ≠ w.heap.size + 1 + 1 + 1; omega) _), Lib.hid (HS3.out.congr (fun i _ => ?_))⟩
        show (if i = k then Value.string s else if i < k then _ else _) = _
        by_cases e : i = k
        · subst e; rw [if_pos rfl, if_pos (by omega), HSt.out]
        · rw [if_neg e]
          by_cases e2 : i < k
          · rw [if_pos e2, if_pos (by omega)]
          · rw [if_neg e2, if_neg (by omega)]
      case measure => simp [intOf]; omega
    · obtain rfl : k = 17 := by omega
      have HLn : Hid (((loadL ss ws zs).map Value.string).length = 17) := Lib.hid (by rw [List.length_map]; unfold loadL; rw [List.length_map, HL.out])
      have HRg : Hid (wr.rangeAt (w.heap.size + 1 + 1 + 1) 0 ((loadL ss ws zs).map Value.string)) := Lib.hid (fun j v hj => by
        rw [List.getElem?_map] at hj
        have hj17 : j < 17 := by
          rcases Nat.lt_or_ge j 17 with q | q
          · exact q
          · rw [List.getElem?_eq_none (by have := HLn.out; rw [List.length_map] at this; omega)] at hj; cases hj
        have hlt' : j < (loadL ss ws zs).length := by have := HLn.out; rw [List.length_map] at this; omega
        rw [List.getElem?_eq_getElem hlt'] at hj
        injection hj with hj
        rw [Nat.zero_add, R3.out.cell hj17, if_pos hj17, ← hj, List.getD_eq_getElem?_getD, List.getElem?_eq_getElem hlt']; rfl)
      have HTh : Hid (wr.there (w.heap.size + 1 + 1) 0 17) := Lib.hid (fun j hj => by rw [Nat.zero_add, R2.out.cell hj, R2.out.frozen j]; exact ⟨rfl, rfl⟩)
      have HOn : Hid (∀ v ∈ (loadL ss ws zs).map Value.string, v.oneCell' = true) := Lib.hid (fun v hv => by obtain ⟨s, _, rfl⟩ := List.mem_map.1 hv; rfl)
      generalize hcs : (loadL ss ws zs).map Value.string = cs at HLn HRg HOn
      have HCs := Lib.hid hcs
      clear hcs
      have HRs := Lib.hid (World.rangeAt_setCells_same wr (w.heap.size + 1 + 1) 0 cs (by rw [HLn.out]; exact HTh.out))
      have hin : (Try.prog.info? 114).map (·.size) = some cs.length := by rw [HLn.out]; kernel_rfl
      have HIn := Lib.hid hin
      have HLd := Lib.hid (run_loadVar_mid (P := Try.prog) (wr.setCells (w.heap.size + 1 + 1) 0 cs) (w.heap.size + 1 + 1) 0 114 cs _ HRs.out Try.underlying114 rfl hin)
      clear hin R2 R3 X0
      go_wp2_with (first
        | (with_reducible refine wpList_load_mid rfl 114 (.tmp 5) rfl (w.heap.size + 1 + 1 + 1) 0 rfl cs _ HRg.out Try.underlying114 rfl HIn.out ?_)
        | (with_reducible refine wpList_store_mid rfl 114 (.tmp 4) (.tmp 22) rfl (w.heap.size + 1 + 1) 0 cs.toArray rfl rfl (by simpa [HLn.out] using HTh.out) (by simpa using HIn.out) (all_oneCell_toArray HOn.out) ?_))
      refine bodyPost_ret (v := .agg cs.toArray) (results_cell Try.results115 (by rfl) HLd.out) rfl ?_
      exact ⟨by rw [HCs.out], below_setCells hbw (by omega) 0 cs⟩

set_option maxRecDepth 100000 in
set_option maxHeartbeats 2000000 in
theorem tabList (rs : List ByteArray) (w : World) (hl : rs.length = 17) :
    Calls Try.prog 116 #[.agg (rs.map Value.string).toArray] w (GivesStrs rs w) := by
  have hmk : ∀ V : World, (Instr.makeSlice 23 (.int .i64 17) (.int .i64 17)).run Try.prog V = .ok (.slice (some ⟨V.heap.size, 0, none⟩) 17 17) (V.alloc (.cells (zS 17).toArray 9)) := fun V => makeS 17 (by omega) V
  have hb0 : Below w.heap.size w ((w.alloc (.cells (rs.map Value.string).toArray 114)).alloc (.cells (zS 17).toArray 9)) := bt (alloc_below _ _) (alloc_below _ _)
  have HL := Lib.hid hl
  have HN : Hid ((cellsS rs).length = 17) := Lib.hid (by rw [cellsS_len]; exact hl)
  have hg : Hid (((w.alloc (.cells (rs.map Value.string).toArray 114)).alloc (.cells (zS 17).toArray 9)).heap[w.heap.size + 1]? = some (.cells (zS 17).toArray 9 (0, 0))) := Lib.hid (by
    have := Box.new (w.alloc (.cells (rs.map Value.string).toArray 114)) 9 (zS 17).toArray
    rw [World.size_alloc] at this
    exact this)
  clear hl
  go_enter Try.func116, Try.ntmps116
  go_wp2_with (with_reducible refine wpList_copy_splice rfl (.tmp 5) (.tmp 6) 23 23 rfl 9 Try.underlying23 szStr _ _ 17 17 17 17 rfl rfl (w.heap.size + 1) 0 (zS 17) 9 hg.out (cellsS rs) ?h1 ?h2 ?h3 ?h4 w.heap.size w hb0 (by omega) ?_)
  case h1 => rw [HN.out]; simp
  case h2 => exact fun _ j v hv => by simpa [cellsS] using hv
  case h3 => rw [HN.out, zS_len]; omega
  case h4 => exact cellsS_one rs
  intro w2 hg2 hb2
  have HR : Hid (w2.rowIs (w.heap.size + 1) 9 17 (fun i => .string (rs.getD i ByteArray.empty))) := Lib.hid (by
    refine row_of_list HL.out ?_
    have := hg2.out
    rw [show splice (zS 17) 0 (cellsS rs) = rs.map Value.string from by
      unfold splice
      rw [HN.out, List.drop_of_length_le (by rw [zS_len]; omega)]; simp [cellsS]] at this
    exact this)
  clear hg2 hg hmk
  go_wp2
  go_ret
  exact ⟨_, _, _, rfl, HL, Lib.hid (.inr ⟨w.heap.size + 1, 17, _, rfl, by omega, HR.out.lt, by rw [HL.out]; omega, HR.out, fun i _ => rfl⟩), hb2⟩

set_option maxRecDepth 100000 in
set_option maxHeartbeats 2000000 in
theorem implLoad (A C : Option Addr) (n c m d : Nat) (ss : List ByteArray) (ws : List (Int × ByteArray)) (w : World) (hl : ss.length = n) (hm : ws.length = m) (hn : n ≤ maxLen) (hmm : m ≤ maxLen) (h : StrL w A ss) (g : WrL w C ws) (fs : FitS ss) (fw : FitW ws) :
    Calls Try.prog 62 #[.agg #[.slice A n c, .slice C m d]] w (GivesStrsCode (loadOf ss ws) w) := by
  have hb0 := alloc_below w (.cells #[.slice A n c, .slice C m d] 26)
  have X0 := Lib.hid (Box.new w 26 #[.slice A n c, .slice C m d])
  have HN := Lib.hid (implNewest A C n c m d ss ws _ hl hm hn hmm (h.below hb0) (g.below hb0) fs fw)
  have HF := Lib.hid (show loadOf ss ws = if (newOf ss ws).c = 0 then (loadL ss ws (newOf ss ws).z, 0) else ([], (newOf ss ws).c) from rfl)
  have HGd := Lib.hid (newOf_good ss ws)
  have HOk : Hid ((newOf ss ws).c = 0 → okDisk ss ws = true) := Lib.hid (fun q => by
    rcases newOf_cases ss ws with ⟨_, e⟩ | ⟨e, _⟩
    · rw [e] at q; simp at q
    · exact e)
  have HLd := Lib.hid (fun W (hb : Below w.heap.size w W) (hok : okDisk ss ws = true) (g' : Int) (T : Option Addr) (tc : Nat) (zs : List Int) (ht : zs.length = 17) (hz : ∀ z ∈ zs, 0 ≤ z ∧ z ≤ 47) (hT : IntL W T zs) => diskLoad A C n c m d ss ws g' T tc zs W hl hm hok (h.below hb) (g.below hb) ht hz hT)
  generalize newOf ss ws = b at HN HF HGd HOk
  generalize loadOf ss ws = r at HF
  clear hl hm hn hmm h g fs fw
  go_enter Try.func62, Try.ntmps62
  go_wp2_with fail
  refine HN.out.mono ?_
  rintro e w1 ⟨A1, n1, c1, rfl, L1, O1, hb1⟩
  have hb2 := bt (bt hb0 hb1) (alloc_below w1 (.cells #[.int .i64 b.g, .slice A1 n1 c1] 57))
  have Y0 := Lib.hid (X0.out.step (bt hb1 (alloc_below w1 (.cells #[.int .i64 b.g, .slice A1 n1 c1] 57))))
  have O2 := Lib.hid (O1.out.below (alloc_below w1 (.cells #[.int .i64 b.g, .slice A1 n1 c1] 57)))
  by_cases hc : b.c = 0
  · have hcb : (b.c != 0) = false := by simp [hc]
    have HR : Hid (r = (loadL ss ws b.z, 0)) := Lib.hid (by rw [HF.out, if_pos hc])
    have hgd := HGd.out hc
    obtain rfl : n1 = 17 := by have := L1.out; omega
    have HDl := Lib.hid (HLd.out _ hb2 (HOk.out hc) b.g A1 c1 b.z hgd.1 (fun z hz => by have := hgd.2 z hz; omega) O2.out.reads)
    have HTl := Lib.hid (fun W => tabList (loadL ss ws b.z) W (by unfold loadL; rw [List.length_map]; exact hgd.1))
    generalize loadL ss ws b.z = fz at HR HDl HTl
    have f0 := Y0.out.cell 0 rfl
    have f1 := Y0.out.cell 1 rfl
    clear hc hb0 hb1 hgd HLd HOk HGd HF HN
    go_wp2_with fail
    refine HDl.out.mono ?_
    rintro e w3 ⟨rfl, hb3⟩
    clear f0 f1
    go_wp2_with fail
    refine (HTl.out w3).mono ?_
    rintro e w4 ⟨A4, n4, c4, rfl, L4, O4, hb4⟩
    have HZ : Hid (w.heap.size ≤ w3.heap.size) := Lib.hid (bt hb2 hb3).size
    go_wp2
    refine bodyPost_ret (v := .tuple #[.slice A4 n4 c4, .int .i64 0]) (by simp [results, Try.results62, go_sem]) rfl ?_
    rw [HR.out]
    exact ⟨_, _, _, rfl, L4, Lib.hid (O4.out.wide' HZ.out (Nat.le_refl _)), bt (bt hb2 hb3) hb4⟩
  · have hcb : (b.c != 0) = true := by simp [hc]
    have HR : Hid (r = ([], b.c)) := Lib.hid (by rw [HF.out, if_neg hc])
    clear hc hb0 hb1
    go_wp2
    refine bodyPost_ret (v := .tuple #[.slice none 0 0, .int .i64 b.c]) (by simp [results, Try.results62, go_sem]) rfl ?_
    rw [HR.out]
    exact ⟨_, _, _, rfl, Lib.hid rfl, Lib.hid (.inl rfl), hb2⟩
end Go.Proofs.Ytoogaaoknpfkoaa
