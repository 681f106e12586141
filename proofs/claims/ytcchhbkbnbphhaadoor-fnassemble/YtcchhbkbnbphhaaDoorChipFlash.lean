/- The contract of chip.flash: a chip as a flash. -/
import Derived.Test.YtcchhbkbnbphhaaDoorM4
import Derived.Deep.DeepCutAuto
import Derived.Deep.DeepFit
namespace Go.Proofs.YtcchhbkbnbphhaaDoor
open Go.RowKit

def NewF (w : World) (zs : List Int) (gs : List Bool) (st : Int) (z : Value) (wx : World) : Prop :=
  ∃ bi bg bf, z = .pointer (some ⟨bf, 0, none⟩) ∧ Hid (w.heap.size + 1 < bi ∧ w.heap.size + 1 < bg ∧ w.heap.size + 1 < bf) ∧
    Hid (Box wx bf 44 #[.slice (some ⟨bi, 0, none⟩) 256 256, .slice (some ⟨bg, 0, none⟩) 16 16, .int .i64 st]) ∧ Hid (wx.rowIs bi 3 256 (fun _ => .int .i64 0)) ∧ Hid (wx.rowIs bg 4 16 (fun _ => .bool false)) ∧
    Hid (BC wx w.heap.size zs gs st) ∧ Hid (Box wx (w.heap.size + 1) 44 #[.slice none 0 0, .slice none 0 0, .int .i64 0]) ∧ Below w.heap.size w wx

theorem made_row {w : World} {b n : Nat} {v : Value} {t : TypeId} (h : w.heap[b]? = some (.cells (madeCells #[v] n) t (0, 0))) : w.rowIs b t n (fun _ => v) := by
  obtain ⟨cs, hc, hs, hi⟩ := World.rowIs_made w v n t
  have e : (w.alloc (.cells (madeCells #[v] n) t)).heap[w.heap.size]? = some (.cells (madeCells #[v] n) t (0, 0)) := Box.new w t (madeCells #[v] n)
  rw [e] at hc
  injection hc with hc
  injection hc with hc _
  exact ⟨cs, by rw [h, hc], hs, hi⟩
theorem three_new (W : World) (o1 o2 o3 : Obj) : (((W.alloc o1).alloc o2).alloc o3).heap[W.heap.size]? = some o1 ∧ (((W.alloc o1).alloc o2).alloc o3).heap[W.heap.size + 1]? = some o2 ∧ (((W.alloc o1).alloc o2).alloc o3).heap[W.heap.size + 1 + 1]? = some o3 := by
  refine ⟨?_, ?_, ?_⟩
  · show (((W.heap.push o1).push o2).push o3)[W.heap.size]? = some o1
    rw [Array.getElem?_push, if_neg (by simp only [Array.size_push]; omega), Array.getElem?_push, if_neg (by simp only [Array.size_push]; omega), Array.getElem?_push, if_pos rfl]
  · show (((W.heap.push o1).push o2).push o3)[W.heap.size + 1]? = some o2
    rw [Array.getElem?_push, if_neg (by simp only [Array.size_push]; omega), Array.getElem?_push, if_pos (by simp only [Array.size_push])]
  · show (((W.heap.push o1).push o2).push o3)[W.heap.size + 1 + 1]? = some o3
    rw [Array.getElem?_push, if_pos (by simp only [Array.size_push])]
theorem newF_mk {w W0 W : World} {zs : List Int} {gs : List Bool} {st : Int} (hs : W0.heap.size = w.heap.size + 1 + 1) (hX : BC W0 w.heap.size zs gs st) (hY : Box W0 (w.heap.size + 1) 44 #[.slice none 0 0, .slice none 0 0, .int .i64 0]) (hb0 : Below w.heap.size w W0) (hb : Below W0.heap.size W0 W)
    (bi bg bf : Nat) (h1 : W0.heap.size ≤ bi ∧ W0.heap.size ≤ bg ∧ W0.heap.size ≤ bf) (hi : W.heap[bi]? = some (.cells (madeCells #[.int .i64 0] 256) 3 (0, 0))) (hg : W.heap[bg]? = some (.cells (madeCells #[.bool false] 16) 4 (0, 0)))
    (hf : W.heap[bf]? = some (.cells #[.slice (some ⟨bi, 0, none⟩) 256 256, .slice (some ⟨bg, 0, none⟩) 16 16, .int .i64 st] 44 (0, 0))) : NewF w zs gs st (.pointer (some ⟨bf, 0, none⟩)) W.drew :=
  ⟨bi, bg, bf, rfl, Lib.hid (by omega), Lib.hid hf, Lib.hid (made_row hi), Lib.hid (made_row hg), Lib.hid (hX.step hb.drew), Lib.hid (hY.step hb.drew), (bt hb0 hb).drew⟩

theorem step_copy_btw {P : Program} {ops : Array Oper} {o : Oper} {a : Act} {w : World} {K : Act → World → Prop} {Q : Exit → Act → World → Prop} {E : Prop} (hgd : o.guard = none) (d s : Operand) (dT sT : TypeId)
    (ho : o.op = .call { callee := .builtin .copy, args := #[d, s], argTypes := #[dT, sT] }) (elem : TypeId) (hu : P.underlying dT = some (.slice elem)) (hsz : (P.info? elem).map (·.size) = some 1)
    (g off dLen dCap : Nat) (ad : Addr) (sLen sCap : Nat) (hd : a.eval d = .slice (some ⟨g, off, none⟩) dLen dCap) (hs : a.eval s = .slice (some ad) sLen sCap)
    (cur : List Value) (t : TypeId) (hg : w.heap[g]? = some (.cells cur.toArray t (0, 0))) (cs : List Value) (hn : cs.length = Nat.min sLen dLen)
    (hsrc : ∀ j v, cs[j]? = some v → w.cell? (ad.add j) = some v)
    (hfit : off + cs.length ≤ cur.length) (h1 : ∀ v ∈ cs, v.oneCell' = true)
    (h : ∀ w', Hid (w'.heap[g]? = some (.cells (splice cur off cs).toArray t (0, 0))) → Btw g (g + 1) w w' → K (a.put o.dst (goInt cs.length)) w') :
    if Region.wanted o (yielded ops a.tmps) = true then Oper.wp P o a w K Q else E := by
  have hw : Region.wanted o (yielded ops a.tmps) = true := by simp [Region.wanted, hgd]
  rw [if_pos hw]
  have hrun := run_copy_row (P := P) w dT sT o.type elem g off dLen dCap ad sLen sCap cur.toArray t cs hu hsz hg hn hsrc (by simpa using hfit) h1
  unfold Oper.wp
  simp [execOp, ho, resolve, invoke, builtin, hd, hs, hrun, Result.andThen]
  exact h _ (show _ = _ by simpa [splice] using setRow_heap w g _ _ t _ hg) ⟨rfl, rfl, rfl, by simp [World.setRow], fun k _ hk => setRow_other w g k _ (by omega)⟩
theorem row_heap {w : World} {b n : Nat} {t : TypeId} {f : Nat → Value} (h : w.rowIs b t n f) : ∃ cur : List Value, cur.length = n ∧ w.heap[b]? = some (.cells cur.toArray t (0, 0)) := by
  obtain ⟨cs, hc, hs, _⟩ := h
  exact ⟨cs.toList, by simpa using hs, by simpa using hc⟩
theorem splice_all {α : Type} (l m : List α) (h : l.length = m.length) : splice l 0 m = m := by
  unfold splice
  rw [List.take_zero, List.nil_append, Nat.zero_add, ← h, List.drop_length, List.append_nil]
theorem ownB_row {w : World} {lo b : Nat} {gs : List Bool} (h : w.heap[b]? = some (.cells (cellsB gs).toArray 4 (0, 0))) (hlo : lo ≤ b) : OwnB w lo w.heap.size (some ⟨b, 0, none⟩) gs := by
  have hr : w.rowIs b 4 gs.length (fun i => .bool (gs.getD i false)) := ⟨_, h, by simp [cellsB], fun i hi => by
    show _ = some (Value.bool (gs.getD i false))
    rw [List.getElem?_toArray]
    unfold cellsB
    rw [List.getElem?_map, List.getD_eq_getElem?_getD, List.getElem?_eq_getElem hi]
    rfl⟩
  exact .inr ⟨b, gs.length, _, rfl, hlo, hr.lt, Nat.le_refl _, hr, fun i _ => rfl⟩
def cellsU (zs : List Int) : List Value := zs.map fun z => Value.int .u8 z
theorem cellsU_len (zs : List Int) : (cellsU zs).length = zs.length := by simp [cellsU]
theorem cellsU_at (zs : List Int) (j : Nat) (h : j < zs.length) : (cellsU zs)[j]? = some (.int .u8 (zs.getD j 0)) := by
  unfold cellsU
  rw [List.getElem?_map, List.getD_eq_getElem?_getD, List.getElem?_eq_getElem h]
  rfl
theorem BC.rangeU {w : World} {b : Nat} {zs : List Int} {gs : List Bool} {st : Int} (h : BC w b zs gs st) : w.rangeAt b 0 (cellsU zs) := fun j v hv => by
  have hj : j < zs.length := by have := (List.getElem?_eq_some_iff.1 hv).1; rwa [cellsU_len] at this
  rw [cellsU_at zs j hj] at hv
  rw [Nat.zero_add, ← hv]
  exact h.cell j hj
theorem BC.srcG {w : World} {b : Nat} {zs : List Int} {gs : List Bool} {st : Int} (h : BC w b zs gs st) (hz : zs.length = 256) : ∀ j v, (cellsB gs)[j]? = some v → w.cell? ((⟨b, 256, none⟩ : Addr).add j) = some v := fun j v hv => by
  have hj : j < gs.length := by have := (List.getElem?_eq_some_iff.1 hv).1; rwa [cellsB_len] at this
  rw [addr_add, h.guard hz j hj, ← hv]
  unfold cellsB
  rw [List.getElem?_map, List.getD_eq_getElem?_getD, List.getElem?_eq_getElem hj]
  rfl
set_option maxRecDepth 100000 in
theorem sizeU8 : (Tryd.prog.info? 5).map (·.size) = some 1 := by kernel_rfl
set_option maxRecDepth 100000 in
theorem indexU (cu : List Value) (j : Nat) (hj : j < 256) (x : Int) (h : cu[j]? = some (.int .u8 x)) (w : World) : (Instr.index 92 (.agg cu.toArray) (.int .i64 (j : Int))).run Tryd.prog w = .ok (.int .u8 x) w := by
  obtain ⟨i, hi, hs⟩ := Option.map_eq_some_iff.1 sizeU8
  simp [Instr.index, asIntOf, hj, sizeOf, typeInfo, hi, hs, part, isAgg, h]
set_option maxRecDepth 100000 in
theorem size256 : (Tryd.prog.info? 92).map (·.size) = some 256 := by kernel_rfl

set_option maxRecDepth 100000 in
set_option maxHeartbeats 4000000 in
theorem chipFlashC (zs : List Int) (gs : List Bool) (st : Int) (w : World) (hz : zs.length = 256) (hg : gs.length = 16) (hzs : ∀ z ∈ zs, 0 ≤ z ∧ z ≤ 255) :
    Calls Tryd.prog 56 #[.agg (chipC zs gs st).toArray] w (GivesFlashC zs gs st w) := by
  obtain ⟨W0, hW0⟩ : ∃ W0, W0 = ((w.alloc (.cells (chipC zs gs st).toArray 95)).alloc (.cells #[.slice none 0 0, .slice none 0 0, .int .i64 0] 44)) := ⟨_, rfl⟩
  have hb0 : Below w.heap.size w W0 := by rw [hW0]; exact bt (alloc_below _ _) (alloc_below _ _)
  have X0 : BC W0 w.heap.size zs gs st := by rw [hW0]; exact (BC.new _ _ _ _).alloc _
  have Y0 : Box W0 (w.heap.size + 1) 44 #[.slice none 0 0, .slice none 0 0, .int .i64 0] := by rw [hW0]; simpa using Box.new (w.alloc (.cells (chipC zs gs st).toArray 95)) 44 #[.slice none 0 0, .slice none 0 0, .int .i64 0]
  have hs0 : W0.heap.size = w.heap.size + 1 + 1 := by rw [hW0]; simp
  have HK : Hid (∀ W', Below W0.heap.size W0 W' → W'.cell? ⟨w.heap.size, 272, none⟩ = some (.int .i64 st)) := Lib.hid (fun W' hb => (X0.step hb).state hz hg)
  have HX := Lib.hid (And.intro X0 Y0)
  have HL := Lib.hid (And.intro hz hg)
  have HZs := Lib.hid hzs
  have HS0 := Lib.hid hs0
  have HW0 := Lib.hid hW0
  have hmkI : ∀ W : World, (Instr.makeSlice 26 (.int .i64 256) (.int .i64 256)).run Tryd.prog W = .ok (.slice (some ⟨W.heap.size, 0, none⟩) 256 256) (W.alloc (.cells (madeCells #[.int .i64 0] 256) 3)) := fun W => run_make_row' (P := Tryd.prog) 26 3 (.int .i64 0) 8 Tryd.underlying26 infoI rfl .i64 .i64 256 (by omega) (by omega) W
  have hmkB : ∀ W : World, (Instr.makeSlice 42 (.int .i64 16) (.int .i64 16)).run Tryd.prog W = .ok (.slice (some ⟨W.heap.size, 0, none⟩) 16 16) (W.alloc (.cells (madeCells #[.bool false] 16) 4)) := fun W => run_make_row' (P := Tryd.prog) 42 4 (.bool false) 1 Tryd.underlying42 infoB rfl .i64 .i64 16 (by omega) (by omega) W
  generalize hcs : chipC zs gs st = cs at HW0
  have HCs := Lib.hid hcs
  clear hz hg hzs X0 Y0 hs0 hW0 hcs
  have h6 : Below W0.heap.size W0 W0.drew := (Below.refl _ _).drew
  go_enter Tryd.func56, Tryd.ntmps56
  go_wp2
  rw [← HW0.out]
  go_cut [3] (fun z wx => NewF w zs gs st z wx)
  case first =>
    go_region_held3 (fun W => W.cell? ⟨w.heap.size, 272, none⟩ = some (.int .i64 st))
      (first | exact HK.out _ h6 | exact HK.out _ (bt h6 (alloc_below _ _)) | exact HK.out _ (bt (bt h6 (alloc_below _ _)) (alloc_below _ _)) | exact HK.out _ (bt (bt (bt h6 (alloc_below _ _)) (alloc_below _ _)) (alloc_below _ _)))
      (fail)
    all_goals (go_wp2_with fail; go_meet)
    all_goals (
      obtain ⟨t1, t2, t3⟩ := three_new W0 _ _ _
      first
      | exact newF_mk HS0.out HX.out.1 HX.out.2 hb0 (bt (bt (alloc_below _ _) (alloc_below _ _)) (alloc_below _ _)) _ _ _ (by omega) t1 t2 t3
      | exact newF_mk HS0.out HX.out.1 HX.out.2 hb0 (bt (bt (alloc_below _ _) (alloc_below _ _)) (alloc_below _ _)) _ _ _ (by omega) t1 t3 t2
      | exact newF_mk HS0.out HX.out.1 HX.out.2 hb0 (bt (bt (alloc_below _ _) (alloc_below _ _)) (alloc_below _ _)) _ _ _ (by omega) t2 t1 t3
      | exact newF_mk HS0.out HX.out.1 HX.out.2 hb0 (bt (bt (alloc_below _ _) (alloc_below _ _)) (alloc_below _ _)) _ _ _ (by omega) t3 t1 t2
      | exact newF_mk HS0.out HX.out.1 HX.out.2 hb0 (bt (bt (alloc_below _ _) (alloc_below _ _)) (alloc_below _ _)) _ _ _ (by omega) t2 t3 t1
      | exact newF_mk HS0.out HX.out.1 HX.out.2 hb0 (bt (bt (alloc_below _ _) (alloc_below _ _)) (alloc_below _ _)) _ _ _ (by omega) t3 t2 t1)
  case rest =>
    obtain ⟨bi, bg, bf, rfl, HB, F, I, G, X, Y, hbz⟩ := hcut
    clear hmkI hmkB HK h6 hb0 HX HS0 HW0
    obtain ⟨W1, hW1⟩ : ∃ W1, W1 = wc := ⟨_, rfl⟩
    rw [← hW1] at F I G X Y hbz ⊢
    clear hW1 wc
    have HR := Lib.hid X.out.rangeU
    have HSz : Hid ((Tryd.prog.info? 92).map (·.size) = some (cellsU zs).length) := Lib.hid (by rw [cellsU_len, HL.out.1]; exact size256)
    have HU := Lib.hid (fun j (hj : j < 256) => cellsU_at zs j (by rw [HL.out.1]; exact hj))
    have HUl : Hid ((cellsU zs).length = 256) := Lib.hid (by rw [cellsU_len]; exact HL.out.1)
    generalize cellsU zs = cu at HR HSz HU HUl
    go_wp2_with (first
      | (with_reducible refine wpList_load_mid rfl 92 (.tmp 11) rfl w.heap.size 0 rfl cu _ HR.out Tryd.underlying92 rfl HSz.out ?_))
    go_loopw [13] (fun i wr => ∃ j : Nat, j ≤ 256 ∧ i = .int .i64 j ∧ Below w.heap.size w wr ∧ Hid (Box wr bf 44 #[.slice (some ⟨bi, 0, none⟩) 256 256, .slice (some ⟨bg, 0, none⟩) 16 16, .int .i64 st]) ∧ Hid (wr.rowIs bi 3 256 (fun i => if i < j then .int .i64 (zs.getD i 0) else .int .i64 0)) ∧ Hid (wr.rowIs bg 4 16 (fun _ => .bool false)) ∧ Hid (BC wr w.heap.size zs gs st) ∧ Hid (Box wr (w.heap.size + 1) 44 #[.slice none 0 0, .slice none 0 0, .int .i64 0])) (fun i _ => 256 - (intOf i).toNat)
    case atStart => exact ⟨0, by omega, rfl, hbz, F, Lib.hid (I.out.congr (fun i _ => by simp)), G, X, Y⟩
    case round =>
      clear hbz F I G X Y
      obtain ⟨j, hj, rfl, hbw, F, I, G, X, Y⟩ := hrel
      by_cases hlt : j < 256
      · have hcu := HU.out j hlt
        have hcd := I.out.cell hlt
        simp only [Nat.lt_irrefl, if_false] at hcd
        have hfr := I.out.frozen j
        have HI := Lib.hid (I.out.set j (.int .i64 (zs.getD j 0)))
        have HF := Lib.hid (F.out.other I.out (by decide) j (.int .i64 (zs.getD j 0)))
        have HY := Lib.hid (Y.out.other I.out (by decide) j (.int .i64 (zs.getD j 0)))
        have HXn := Lib.hid (Box.other X.out I.out (by decide) j (.int .i64 (zs.getD j 0)))
        have HGn := Lib.hid (G.out.setOther (a := ⟨bi, j, none⟩) (by exact (row_ne I.out G.out (by decide)).symm) (.int .i64 (zs.getD j 0)))
        have hb' : Below w.heap.size w (wr.setCell ⟨bi, j, none⟩ (.int .i64 (zs.getD j 0))) := hbw.setCell (p := ⟨bi, j, none⟩) (by show w.heap.size ≤ bi; have := HB.out; omega) _
        have f0 := F.out.cell 0 rfl
        have f1 := F.out.cell 1 rfl
        have hix := indexU cu j hlt _ hcu wr
        have hrg := HZs.out (zs.getD j 0) (by rw [List.getD_eq_getElem?_getD, List.getElem?_eq_getElem (by rw [HL.out.1]; exact hlt)]; exact List.getElem_mem _)
        have hw6 : RowKit.wrap64 (zs.getD j 0) = zs.getD j 0 := by unfold RowKit.wrap64; omega
        generalize hx : zs.getD j 0 = x at hix hrg hw6 HI HF HY HXn HGn hb'
        have HX := Lib.hid hx
        have hi : (j : Int) < 256 := by omega
        clear hx F I G X Y hbw hcu
        go_wp2
        go_roundw
        case rel =>
          refine ⟨j + 1, by omega, by go_num, hb', HF, Lib.hid (HI.out.congr (fun i _ => ?_)), HGn, HXn, HY⟩
          show (if i = j then Value.int .i64 x else if i < j then _ else _) = _
          by_cases e : i = j
          · subst e; rw [if_pos rfl, if_pos (by omega), HX.out]
          · rw [if_neg e]
            by_cases e2 : i < j
            · rw [if_pos e2, if_pos (by omega)]
            · rw [if_neg e2, if_neg (by omega)]
        case measure => simp [intOf]; omega
      · obtain rfl : j = 256 := by omega
        have f1 := F.out.cell 1 rfl
        have h6 : Below wr.heap.size wr wr.drew := (Below.refl _ _).drew
        obtain ⟨cur, hcl, hcg⟩ := row_heap G.out
        have HG : Hid (wr.drew.heap[bg]? = some (.cells cur.toArray 4 (0, 0))) := Lib.hid hcg
        have HSr := Lib.hid (show ∀ j v, (cellsB gs)[j]? = some v → wr.drew.cell? ((⟨w.heap.size, 256, none⟩ : Addr).add j) = some v from X.out.srcG HL.out.1)
        have HCb : Hid ((cellsB gs).length = Nat.min 16 16) := Lib.hid (by rw [cellsB_len, HL.out.2]; rfl)
        have HFit : Hid (0 + (cellsB gs).length ≤ cur.length) := Lib.hid (by rw [cellsB_len, HL.out.2, hcl]; omega)
        have HOne : Hid (∀ v ∈ cellsB gs, v.oneCell' = true) := Lib.hid (fun v hv => by unfold cellsB at hv; obtain ⟨q, _, rfl⟩ := List.mem_map.1 hv; rfl)
        have HSp : Hid (splice cur 0 (cellsB gs) = cellsB gs) := Lib.hid (splice_all _ _ (by rw [hcl, cellsB_len, HL.out.2]))
        have HNe : Hid (bf ≠ bg ∧ bi ≠ bg ∧ w.heap.size + 1 ≠ bg) := Lib.hid ⟨F.out.ne G.out (by decide), row_ne I.out G.out (by decide), Y.out.ne G.out (by decide)⟩
        have HK : Hid (∀ W', Btw bg (bg + 1) wr.drew W' → W'.cell? ⟨bf, 1, none⟩ = some (.slice (some ⟨bg, 0, none⟩) 16 16)) := Lib.hid (fun W' hb => ((F.out.step h6).btw hb (by have := HNe.out; omega)).cell 1 rfl)
        generalize hcb : cellsB gs = cb at HSr HCb HFit HOne HSp
        have HCbe := Lib.hid hcb
        have HRest := Lib.hid (And.intro F.out (And.intro I.out Y.out))
        have HBw := Lib.hid hbw
        clear hcl hcg hcb F I G X Y hbw
        go_wp2
        go_region_held3 (fun W => W.cell? ⟨bf, 1, none⟩ = some (.slice (some ⟨bg, 0, none⟩) 16 16))
          (first | exact HK.out _ (Btw.refl _ _ _) | exact HK.out _ hb2)
          (first | (refine step_copy_btw rfl (.tmp 25) (.tmp 27) 42 42 rfl 4 Tryd.underlying42 szBool bg 0 16 16 ⟨w.heap.size, 256, none⟩ 16 16 rfl rfl cur 4 HG.out cb HCb.out HSr.out HFit.out HOne.out ?_; intro w2 hg2 hb2))
        have hF := (HRest.out.1.step h6).btw hb2 (by have := HNe.out; omega)
        have hI := hb2.row (row_below h6 HRest.out.2.1 HRest.out.2.1.lt) (by have := HNe.out; omega)
        have hY := (HRest.out.2.2.step h6).btw hb2 (by have := HNe.out; omega)
        have hbz : Below w.heap.size w w2 := (HBw.out.drew).trans ((hb2.below (by have := HG.out; exact Nat.le_of_lt (Array.getElem?_eq_some_iff.1 this).1)).mono (by have := HB.out; omega))
        have HOwB : Hid (OwnB w2 w.heap.size w2.heap.size (some ⟨bg, 0, none⟩) gs) := Lib.hid (ownB_row (by have := hg2.out; rw [HSp.out, ← HCbe.out] at this; exact this) (by have := HB.out; omega))
        have HOwI : Hid (OwnI w2 w.heap.size w2.heap.size (some ⟨bi, 0, none⟩) zs) := Lib.hid (.inr ⟨bi, 256, _, rfl, by have := HB.out; omega, hI.lt, by rw [HL.out.1]; omega, hI, fun i hi => by rw [if_pos (by rw [HL.out.1] at hi; exact hi)]⟩)
        have k0 := hF.cell 0 rfl
        have k1 := hF.cell 1 rfl
        have k2 := hF.cell 2 rfl
        have y0 := hY.cell 0 rfl
        have y1 := hY.cell 1 rfl
        have y2 := hY.cell 2 rfl
        have y0z := hY.frozen 0
        have y1z := hY.frozen 1
        have y2z := hY.frozen 2
        have HY2 := Lib.hid hY
        clear f1 h6 hF hI hY HK HG HSr HCb HFit HOne HSp HNe HRest HBw hg2 hb2
        go_wp2
        refine bodyPost_ret (v := .agg #[.slice (some ⟨bi, 0, none⟩) 256 256, .slice (some ⟨bg, 0, none⟩) 16 16, .int .i64 st]) (by simp [results, Tryd.results56, go_sem, y0, y1, y2]) rfl ?_
        refine ⟨_, _, _, _, _, _, rfl, Lib.hid HL.out.1, Lib.hid HL.out.2, Lib.hid ?_, Lib.hid ?_, Lib.hid (Nat.le_refl _), ?_⟩
        · exact (HOwI.out.far3 HY2.out _ _ _).wideB (Nat.le_refl _) (by rw [size3]; exact Nat.le_refl _)
        · exact (HOwB.out.far3 HY2.out _ _ _).wide (Nat.le_refl _) (by rw [size3]; exact Nat.le_refl _)
        · exact below3 hbz (by omega) _ _ _
end Go.Proofs.YtcchhbkbnbphhaaDoor
