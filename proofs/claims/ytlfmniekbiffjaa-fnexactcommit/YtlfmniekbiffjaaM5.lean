/- Texts of this claim, one behind the other: SettleW, LoadImpl, Bools, AppNew, Table, SpecPlanA, SpecPlan, Table2. -/
import Derived.Deep.DeepMust
import Derived.Deep.MidRow
import Derived.Laws.AppendOwn
import Derived.OwnWalk
import Derived.BigQuiet
import Derived.IntWalk
import Derived.Deep.RegionHeld3
import Derived.Test.YtlfmniekbiffjaaM4
/- impl.Disk.settleWrites and flushWrites: the writes of a list settle on a disk with nothing in its cache. -/
namespace Go.Proofs.Ytlfmniekbiffjaa
open Go.RowKit

set_option maxRecDepth 100000 in
/-- append of nothing onto an empty row. -/
theorem run_app_none (b : Addr) (B : Option Addr) (f : Nat) (ty : TypeId) (w : World) : (Builtin.append_ #[28, 28] ty #[.slice (some b) 0 0, .slice B 0 f]).run Try.prog w = .ok (.slice (some b) 0 0) w := by
  cases B <;> go_simp
set_option maxRecDepth 100000 in
theorem wpList_app_none {ops : Array Oper} {rest : List Oper} {o : Oper} {a : Act} {w : World} {Q : Exit → Act → World → Prop}
    (hg : o.guard = none) (s x : Operand) (hop : o.op = Op.call { callee := Callee.builtin Builtin.append, args := #[s, x], argTypes := #[28, 28] })
    (b : Addr) (hs : a.eval s = .slice (some b) 0 0) (B : Option Addr) (f : Nat) (hx : a.eval x = .slice B 0 f) (h : wpList Try.prog ops Q rest (a.put o.dst (.slice (some b) 0 0)) w) : wpList Try.prog ops Q (o :: rest) a w :=
  wpList_plain hg fun _ hK => by
    have hr := run_app_none b B f o.type w
    unfold Oper.wp execOp
    simp only [hop, resolve, invoke, builtin, Sem.run_bind, Sem.run_pure, Result.andThen_ok, List.map_toArray, List.map_cons, List.map_nil, hs, hx, hr]
    exact hK _ _ h

set_option maxRecDepth 100000 in
set_option maxHeartbeats 4000000 in
theorem settleWrites (A C F B : Option Addr) (n c d nf cf k f : Nat) (ss : List ByteArray) (ls : List (Int × ByteArray)) (fs : List Int) (w : World) (hl : ss.length = n) (hk : ls.length = k) (hf : fs.length = nf) (hnf : nf ≤ maxLen) (h : StrL w A ss) (g : WrL w B ls) (i : IntL w F fs) (ok : Ok ss ls) :
    Calls Try.prog 57 #[.agg #[.slice A n c, .slice C 0 d], .slice B k f, .slice F nf cf] w (GivesDisk (settleN ss ls fs k) [] w) := by
  obtain ⟨W0, hW0⟩ : ∃ W0, W0 = ((w.alloc (.cells #[.slice A n c, .slice C 0 d] 30)).alloc (.cells #[.slice none 0 0, .slice none 0 0] 30)) := ⟨_, rfl⟩
  have hb0 : Below w.heap.size w W0 := by rw [hW0]; exact bt (alloc_below _ _) (alloc_below _ _)
  have Y0 : Hid (Box W0 (w.heap.size + 1) 30 #[.slice none 0 0, .slice none 0 0]) := Lib.hid (by rw [hW0]; simpa using Box.new (w.alloc (.cells #[.slice A n c, .slice C 0 d] 30)) 30 #[.slice none 0 0, .slice none 0 0])
  have hn48 : n = 48 := by have := ok.n48; omega
  have hk60 : k ≤ 60 := by have := ok.m60; omega
  have HCl := Lib.hid (clone A C n c 0 d ss [] W0 hl rfl (by omega) (by omega) (h.below hb0) (fun i hi => by simp at hi))
  have HSt := Lib.hid (fun A' c' C' m' d' W (ws : List (Int × ByteArray)) (hm : ws.length = m') (h' : StrL W A' ss) (g' : WrL W C' ws) (hb : Below w.heap.size w W) (ok : Ok ss ws) => settle A' C' F n c' m' d' nf cf ss ws fs W hl hm hf hnf h' g' (i.below hb) ok)
  have H := Lib.hid (And.intro hl (And.intro hk (And.intro g ok)))
  have HW0 := Lib.hid hW0
  clear hl hk hf hnf h g i ok hW0 hn48
  go_enter Try.func57, Try.ntmps57
  go_wp2_with fail
  rw [← HW0.out]
  refine HCl.out.mono ?_
  rintro e w1 ⟨b, b', rfl, R1, hb1⟩
  obtain ⟨D, hD⟩ : ∃ D, D = w1.heap.size := ⟨_, rfl⟩
  obtain ⟨w2, hw2⟩ : ∃ w2, w2 = w1.alloc (.cells #[.slice (some ⟨b, 0, none⟩) n n, .slice (some ⟨b', 0, none⟩) 0 0] 30) := ⟨_, rfl⟩
  have hb2 : Below w1.heap.size w1 w2 := by rw [hw2]; exact alloc_below _ _
  have X2 : Hid (Box w2 D 30 #[.slice (some ⟨b, 0, none⟩) n n, .slice (some ⟨b', 0, none⟩) 0 0]) := Lib.hid (by rw [hw2, hD]; exact Box.new _ _ _)
  have Y2 := Lib.hid ((Y0.out.step hb1).step hb2)
  have O2 : Hid (OwnS w2 w.heap.size w2.heap.size (some ⟨b, 0, none⟩) ss) := Lib.hid (by
    obtain ⟨q1, q2, q3, q4⟩ := R1.out
    have := own_of_rowS (lo := w.heap.size) (hi := w2.heap.size) H.out.1 (row_below hb2 q3 q3.lt) (by have := hb0.size; omega) (row_below hb2 q3 q3.lt).lt
    exact this)
  have hbw2 : Below w.heap.size w w2 := bt (bt hb0 hb1) hb2
  have hDl : w.heap.size + 1 < D := by have := Y0.out.lt; have := hb1.size; omega
  have HW2 := Lib.hid hw2
  have f1 := X2.out.cell 1 rfl
  rw [hw2, hD] at f1
  clear hw2 HCl R1 hb1 hb2 Y0 hb0 HW0
  by_cases hk0 : k = 0
  · have hls : ls = [] := List.eq_nil_of_length_eq_zero (by have := H.out.2.1; omega)
    subst hk0 hls
    have X3 := X2.out
    have X4 : Box (w2.setCell ⟨D, 1, none⟩ (.slice (some ⟨b', 0, none⟩) 0 0)) D 30 #[.slice (some ⟨b, 0, none⟩) n n, .slice (some ⟨b', 0, none⟩) 0 0] := X3.set 1 (.slice (some ⟨b', 0, none⟩) 0 0)
    have Y4 := Lib.hid (Y2.out.far (p := ⟨D, 1, none⟩) (by show w.heap.size + 1 ≠ D; omega) (.slice (some ⟨b', 0, none⟩) 0 0))
    have OS4 := O2.out.far X3 1 (.slice (some ⟨b', 0, none⟩) 0 0)
    have hb4 : Below w.heap.size w (w2.setCell ⟨D, 1, none⟩ (.slice (some ⟨b', 0, none⟩) 0 0)) := hbw2.setCell (p := ⟨D, 1, none⟩) (by show w.heap.size ≤ D; omega) _
    have HS := Lib.hid (HSt.out (some ⟨b, 0, none⟩) n (some ⟨b', 0, none⟩) 0 0 _ [] rfl OS4.reads (fun i hi => by simp at hi) hb4 H.out.2.2.2)
    have k1 := X3.cell 1 rfl
    have k1z := X3.frozen 1
    have m0 := X4.cell 0 rfl
    have m1 := X4.cell 1 rfl
    rw [hD] at k1 k1z m0 m1 HS hb4 Y4
    clear X3 X4 OS4 f1 hbw2 X2 Y2 O2
    have k1' := k1
    rw [HW2.out] at k1'
    go_wp2_with (first | (at_builtin; rw [← HW2.out]; refine wpList_app_none rfl (.tmp 11) (.tmp 12) rfl ⟨b', 0, none⟩ rfl B f rfl ?_))
    refine HS.out.mono ?_
    rintro e w5 ⟨A5, n5, c5, C5, m5, d5, rfl, L5, M5, S5, R5, hb5⟩
    have Y5 := Y4.out.step hb5
    have s0 := Y5.cell 0 rfl
    have s1 := Y5.cell 1 rfl
    have s0z := Y5.frozen 0
    have s1z := Y5.frozen 1
    have HY5 := Lib.hid Y5
    have HQ : Hid (w.heap.size ≤ (w2.setCell ⟨w1.heap.size, 1, none⟩ (.slice (some ⟨b', 0, none⟩) 0 0)).heap.size) := Lib.hid hb4.size
    have HB5 := Lib.hid (bt hb4 hb5)
    clear Y5 Y4 hb4 hb5 k1 k1' k1z m0 m1 HS
    go_wp2
    refine bodyPost_ret (v := .agg #[.slice A5 n5 c5, .slice C5 m5 d5]) (by simp [results, Try.results57, go_sem, s0, s1]) rfl ?_
    exact ⟨A5, n5, c5, C5, m5, d5, rfl, L5, M5, Lib.hid (((S5.out.far HY5.out 0 _).far (HY5.out.set 0 _) 1 _).wide HQ.out (by simp [World.setCell])), Lib.hid (.inl rfl), below_stored HB5.out⟩
  · have hk1 : 0 < k := by omega
    have HSrc := Lib.hid ((H.out.2.2.1.below hbw2).src (by have := H.out.2.1; omega))
    have HCw : Hid ((cellsW ls).length = k * 2) := Lib.hid (by rw [cellsW_len, H.out.2.1])
    go_wp2_with (at_builtin; rw [← HW2.out]; go_must (refine wpList_app_fresh rfl (.tmp 11) (.tmp 12) 28 rfl 87 (.agg #[.int .i64 0, .string ByteArray.empty]) 2 24 Try.underlying28 infoWx rfl (by decide) _ rfl B k f hk1 (cellsW ls) rfl HCw.out HSrc.out (by unfold maxLen; omega) (by omega) ?_))
    intro A3 c3 w3 hb3 O3
    have X3 := X2.out.step hb3
    have Y3 := Y2.out.step hb3
    obtain ⟨gg, cap, ev, q1, q2, q3, q4⟩ := ownW_of_owns O3.out hk1
    injection ev with ev _ ec
    subst ev ec
    have OW3 := q4 w.heap.size w3.heap.size (by have := hbw2.size; omega) q2
    have OS3 := (O2.out.below hb3).wide (Nat.le_refl _) hb3.size
    have X4 : Box (w3.setCell ⟨D, 1, none⟩ (.slice (some ⟨gg, 0, none⟩) k c3)) D 30 #[.slice (some ⟨b, 0, none⟩) n n, .slice (some ⟨gg, 0, none⟩) k c3] := X3.set 1 (.slice (some ⟨gg, 0, none⟩) k c3)
    have Y4 := Lib.hid (Y3.far (p := ⟨D, 1, none⟩) (by show w.heap.size + 1 ≠ D; omega) (.slice (some ⟨gg, 0, none⟩) k c3))
    have OW4 := OW3.far X3 1 (.slice (some ⟨gg, 0, none⟩) k c3)
    have OS4 := OS3.far X3 1 (.slice (some ⟨gg, 0, none⟩) k c3)
    have hb4 : Below w.heap.size w (w3.setCell ⟨D, 1, none⟩ (.slice (some ⟨gg, 0, none⟩) k c3)) := (bt hbw2 hb3).setCell (p := ⟨D, 1, none⟩) (by show w.heap.size ≤ D; omega) _
    have HS := Lib.hid (HSt.out (some ⟨b, 0, none⟩) n (some ⟨gg, 0, none⟩) k c3 _ ls H.out.2.1 OS4.reads OW4.reads hb4 H.out.2.2.2)
    have k1 := X3.cell 1 rfl
    have k1z := X3.frozen 1
    have m0 := X4.cell 0 rfl
    have m1 := X4.cell 1 rfl
    rw [hD] at k1 k1z m0 m1 HS hb4 Y4
    clear X3 Y3 X4 OW3 OS3 OW4 OS4 O3 hb3 q1 q2 q3 q4 f1 HSrc HCw hbw2 X2 Y2 O2
    go_wp2_with fail
    refine HS.out.mono ?_
    rintro e w5 ⟨A5, n5, c5, C5, m5, d5, rfl, L5, M5, S5, R5, hb5⟩
    have Y5 := Y4.out.step hb5
    have s0 := Y5.cell 0 rfl
    have s1 := Y5.cell 1 rfl
    have s0z := Y5.frozen 0
    have s1z := Y5.frozen 1
    have HY5 := Lib.hid Y5
    have HQ : Hid (w.heap.size ≤ (w3.setCell ⟨w1.heap.size, 1, none⟩ (.slice (some ⟨gg, 0, none⟩) k c3)).heap.size) := Lib.hid hb4.size
    have HB5 := Lib.hid (bt hb4 hb5)
    clear Y5 Y4 hb4 hb5 k1 k1z m0 m1 HS
    go_wp2
    refine bodyPost_ret (v := .agg #[.slice A5 n5 c5, .slice C5 m5 d5]) (by simp [results, Try.results57, go_sem, s0, s1]) rfl ?_
    exact ⟨A5, n5, c5, C5, m5, d5, rfl, L5, M5, Lib.hid (((S5.out.far HY5.out 0 _).far (HY5.out.set 0 _) 1 _).wide HQ.out (by simp [World.setCell])), Lib.hid (.inl rfl), below_stored HB5.out⟩

set_option maxRecDepth 100000 in
set_option maxHeartbeats 2000000 in
theorem flushWrites (A C B : Option Addr) (n c d k f : Nat) (ss : List ByteArray) (ls : List (Int × ByteArray)) (w : World) (hl : ss.length = n) (hk : ls.length = k) (h : StrL w A ss) (g : WrL w B ls) (ok : Ok ss ls) :
    Calls Try.prog 47 #[.agg #[.slice A n c, .slice C 0 d], .slice B k f] w (GivesDisk (settleN ss ls [1] k) [] w) := by
  obtain ⟨W0, hW0⟩ : ∃ W0, W0 = (((w.alloc (.cells #[.slice A n c, .slice C 0 d] 30)).alloc (.cells #[.slice none 0 0, .slice none 0 0] 30)).alloc (.cells #[.int .i64 1] 3)) := ⟨_, rfl⟩
  have hb0 : Below w.heap.size w W0 := by rw [hW0]; exact bt (bt (alloc_below _ _) (alloc_below _ _)) (alloc_below _ _)
  have Y0 : Hid (Box W0 (w.heap.size + 1) 30 #[.slice none 0 0, .slice none 0 0]) := Lib.hid (by rw [hW0]; simpa using (Box.new (w.alloc (.cells #[.slice A n c, .slice C 0 d] 30)) 30 #[.slice none 0 0, .slice none 0 0]).alloc (.cells #[.int .i64 1] 3))
  have Z0 : Box W0 (w.heap.size + 1 + 1) 3 #[.int .i64 1] := by rw [hW0]; simpa using Box.new ((w.alloc (.cells #[.slice A n c, .slice C 0 d] 30)).alloc (.cells #[.slice none 0 0, .slice none 0 0] 30)) 3 #[.int .i64 1]
  have HI : IntL W0 (some ⟨w.heap.size + 1 + 1, 0, none⟩) [1] := fun i hi => by
    obtain rfl : i = 0 := by simpa using hi
    exact ⟨_, _, rfl, Z0.cell 0 rfl⟩
  have HS := Lib.hid (settleWrites A C (some ⟨w.heap.size + 1 + 1, 0, none⟩) B n c d 1 1 k f ss ls [1] W0 hl hk rfl (by unfold maxLen; omega) (h.below hb0) (g.below hb0) HI ok)
  have HW0 := Lib.hid hW0
  clear hl hk h g ok hW0 Z0 HI
  go_enter Try.func47, Try.ntmps47
  go_wp2_with fail
  rw [← HW0.out]
  refine HS.out.mono ?_
  rintro e w5 ⟨A5, n5, c5, C5, m5, d5, rfl, L5, M5, S5, R5, hb5⟩
  have Y5 := Y0.out.step hb5
  have s0 := Y5.cell 0 rfl
  have s1 := Y5.cell 1 rfl
  have s0z := Y5.frozen 0
  have s1z := Y5.frozen 1
  have HY5 := Lib.hid Y5
  clear Y5 HS
  go_wp2
  refine bodyPost_ret (v := .agg #[.slice A5 n5 c5, .slice C5 m5 d5]) (by simp [results, Try.results47, go_sem, s0, s1]) rfl ?_
  exact ⟨A5, n5, c5, C5, m5, d5, rfl, L5, M5, Lib.hid (((S5.out.far HY5.out 0 _).far (HY5.out.set 0 _) 1 _).wide hb0.size (by simp [World.setCell])), Lib.hid (.inl rfl), below_stored (bt hb0 hb5)⟩
end Go.Proofs.Ytlfmniekbiffjaa

/- The contracts of Disk.load, of table[string].list and of impl.LoadPages. -/
namespace Go.Proofs.Ytlfmniekbiffjaa
open Go.RowKit

theorem below_setCellsL {w0 w : World} {b : Nat} (h : Below w0.heap.size w0 w) (hb : w0.heap.size ≤ b) : ∀ (o : Nat) (cs : List Value), Below w0.heap.size w0 (w.setCells b o cs) := by
  intro o cs
  induction cs generalizing w o with
  | nil => exact h
  | cons v vs ih => exact ih (h.setCell (p := ⟨b, o, none⟩) hb v) (o + 1)
theorem results_cell {P : Program} {fn : Func} {tmps : Array Value} {w : World} {a : Nat} {t : TypeId} {p : Addr} {v : Value} (h : fn.results = #[.cell a t]) (hp : tmps.getD a undef = .pointer (some p)) (hv : (loadVar t p).run P w = .ok v w) : (results fn tmps).run P w = .ok v w := by
  unfold results
  rw [h]
  simp only [List.mapM_toArray, List.mapM_cons, List.mapM_nil, hp]
  simp [asAddr, hv]
theorem row17 {w : World} {b : Nat} {t : TypeId} (X : Box w b t #[.string ⟨#[]⟩, .string ⟨#[]⟩, .string ⟨#[]⟩, .string ⟨#[]⟩, .string ⟨#[]⟩, .string ⟨#[]⟩, .string ⟨#[]⟩, .string ⟨#[]⟩, .string ⟨#[]⟩, .string ⟨#[]⟩, .string ⟨#[]⟩, .string ⟨#[]⟩, .string ⟨#[]⟩, .string ⟨#[]⟩, .string ⟨#[]⟩, .string ⟨#[]⟩, .string ⟨#[]⟩]) : w.rowIs b t 17 (fun _ => .string ⟨#[]⟩) := by
  refine Box.row X _ (fun i hi => ?_)
  have e : (#[.string ⟨#[]⟩, .string ⟨#[]⟩, .string ⟨#[]⟩, .string ⟨#[]⟩, .string ⟨#[]⟩, .string ⟨#[]⟩, .string ⟨#[]⟩, .string ⟨#[]⟩, .string ⟨#[]⟩, .string ⟨#[]⟩, .string ⟨#[]⟩, .string ⟨#[]⟩, .string ⟨#[]⟩, .string ⟨#[]⟩, .string ⟨#[]⟩, .string ⟨#[]⟩, .string ⟨#[]⟩] : Array Value) = Array.replicate 17 (.string ⟨#[]⟩) := rfl
  rw [e] at hi ⊢
  rw [Array.getElem?_replicate, if_pos (by simpa using hi)]

set_option maxRecDepth 100000 in
set_option maxHeartbeats 4000000 in
theorem diskLoad (A C : Option Addr) (n c m d : Nat) (ss : List ByteArray) (ws : List (Int × ByteArray)) (g : Int) (T : Option Addr) (tc : Nat) (zs : List Int) (w : World) (hl : ss.length = n) (hm : ws.length = m) (hok : okDisk ss ws = true) (h : StrL w A ss) (hw : WrL w C ws) (ht : zs.length = 17) (hz : ∀ z ∈ zs, 0 ≤ z ∧ z ≤ 47) (hT : IntL w T zs) :
    Calls Try.prog 63 #[.agg #[.slice A n c, .slice C m d], .agg #[.int .i64 g, .slice T 17 tc]] w fun e w' => e = .returned (.agg ((loadL ss ws zs).map Value.string).toArray) ∧ Below w.heap.size w w' := by
  have hlen := okDisk_len hok
  have HC := Lib.hid (fun W (hb : Below w.heap.size w W) (k : Nat) (hk : k < 48) => content A C n c m d ss ws k W hl hm (by unfold maxLen; omega) (by unfold maxLen; omega) (h.below hb) (hw.below hb) (by omega))
  have HL := Lib.hid ht
  have HZ := Lib.hid hz
  have HT := Lib.hid hT
  clear hl hm hok h hw ht hz hT hlen
  obtain ⟨W0, hW0⟩ : ∃ W0, W0 = (((w.alloc (.cells #[.slice A n c, .slice C m d] 30)).alloc (.cells #[.int .i64 g, .slice T 17 tc] 49)).alloc (.cells #[.string ⟨#[]⟩, .string ⟨#[]⟩, .string ⟨#[]⟩, .string ⟨#[]⟩, .string ⟨#[]⟩, .string ⟨#[]⟩, .string ⟨#[]⟩, .string ⟨#[]⟩, .string ⟨#[]⟩, .string ⟨#[]⟩, .string ⟨#[]⟩, .string ⟨#[]⟩, .string ⟨#[]⟩, .string ⟨#[]⟩, .string ⟨#[]⟩, .string ⟨#[]⟩, .string ⟨#[]⟩] 84)).alloc (.cells #[.string ⟨#[]⟩, .string ⟨#[]⟩, .string ⟨#[]⟩, .string ⟨#[]⟩, .string ⟨#[]⟩, .string ⟨#[]⟩, .string ⟨#[]⟩, .string ⟨#[]⟩, .string ⟨#[]⟩, .string ⟨#[]⟩, .string ⟨#[]⟩, .string ⟨#[]⟩, .string ⟨#[]⟩, .string ⟨#[]⟩, .string ⟨#[]⟩, .string ⟨#[]⟩, .string ⟨#[]⟩] 84) := ⟨_, rfl⟩
  have hb0 : Below w.heap.size w W0 := by rw [hW0]; exact bt (bt (bt (alloc_below _ _) (alloc_below _ _)) (alloc_below _ _)) (alloc_below _ _)
  have X0 : Hid (Box W0 w.heap.size 30 #[.slice A n c, .slice C m d]) := Lib.hid (by rw [hW0]; exact (((Box.new _ _ _).alloc _).alloc _).alloc _)
  have X2 : Hid (Box W0 (w.heap.size + 1 + 1) 84 #[.string ⟨#[]⟩, .string ⟨#[]⟩, .string ⟨#[]⟩, .string ⟨#[]⟩, .string ⟨#[]⟩, .string ⟨#[]⟩, .string ⟨#[]⟩, .string ⟨#[]⟩, .string ⟨#[]⟩, .string ⟨#[]⟩, .string ⟨#[]⟩, .string ⟨#[]⟩, .string ⟨#[]⟩, .string ⟨#[]⟩, .string ⟨#[]⟩, .string ⟨#[]⟩, .string ⟨#[]⟩]) := Lib.hid (by
    rw [hW0]; exact (by simpa using Box.new ((w.alloc (.cells #[.slice A n c, .slice C m d] 30)).alloc (.cells #[.int .i64 g, .slice T 17 tc] 49)) 84 #[.string ⟨#[]⟩, .string ⟨#[]⟩, .string ⟨#[]⟩, .string ⟨#[]⟩, .string ⟨#[]⟩, .string ⟨#[]⟩, .string ⟨#[]⟩, .string ⟨#[]⟩, .string ⟨#[]⟩, .string ⟨#[]⟩, .string ⟨#[]⟩, .string ⟨#[]⟩, .string ⟨#[]⟩, .string ⟨#[]⟩, .string ⟨#[]⟩, .string ⟨#[]⟩, .string ⟨#[]⟩] : Box (((w.alloc (.cells #[.slice A n c, .slice C m d] 30)).alloc (.cells #[.int .i64 g, .slice T 17 tc] 49)).alloc (.cells #[.string ⟨#[]⟩, .string ⟨#[]⟩, .string ⟨#[]⟩, .string ⟨#[]⟩, .string ⟨#[]⟩, .string ⟨#[]⟩, .string ⟨#[]⟩, .string ⟨#[]⟩, .string ⟨#[]⟩, .string ⟨#[]⟩, .string ⟨#[]⟩, .string ⟨#[]⟩, .string ⟨#[]⟩, .string ⟨#[]⟩, .string ⟨#[]⟩, .string ⟨#[]⟩, .string ⟨#[]⟩] 84)) (w.heap.size + 1 + 1) 84 #[.string ⟨#[]⟩, .string ⟨#[]⟩, .string ⟨#[]⟩, .string ⟨#[]⟩, .string ⟨#[]⟩, .string ⟨#[]⟩, .string ⟨#[]⟩, .string ⟨#[]⟩, .string ⟨#[]⟩, .string ⟨#[]⟩, .string ⟨#[]⟩, .string ⟨#[]⟩, .string ⟨#[]⟩, .string ⟨#[]⟩, .string ⟨#[]⟩, .string ⟨#[]⟩, .string ⟨#[]⟩]).alloc _)
  have X3 : Hid (Box W0 (w.heap.size + 1 + 1 + 1) 84 #[.string ⟨#[]⟩, .string ⟨#[]⟩, .string ⟨#[]⟩, .string ⟨#[]⟩, .string ⟨#[]⟩, .string ⟨#[]⟩, .string ⟨#[]⟩, .string ⟨#[]⟩, .string ⟨#[]⟩, .string ⟨#[]⟩, .string ⟨#[]⟩, .string ⟨#[]⟩, .string ⟨#[]⟩, .string ⟨#[]⟩, .string ⟨#[]⟩, .string ⟨#[]⟩, .string ⟨#[]⟩]) := Lib.hid (by
    rw [hW0]; simpa using Box.new (((w.alloc (.cells #[.slice A n c, .slice C m d] 30)).alloc (.cells #[.int .i64 g, .slice T 17 tc] 49)).alloc (.cells #[.string ⟨#[]⟩, .string ⟨#[]⟩, .string ⟨#[]⟩, .string ⟨#[]⟩, .string ⟨#[]⟩, .string ⟨#[]⟩, .string ⟨#[]⟩, .string ⟨#[]⟩, .string ⟨#[]⟩, .string ⟨#[]⟩, .string ⟨#[]⟩, .string ⟨#[]⟩, .string ⟨#[]⟩, .string ⟨#[]⟩, .string ⟨#[]⟩, .string ⟨#[]⟩, .string ⟨#[]⟩] 84)) 84 #[.string ⟨#[]⟩, .string ⟨#[]⟩, .string ⟨#[]⟩, .string ⟨#[]⟩, .string ⟨#[]⟩, .string ⟨#[]⟩, .string ⟨#[]⟩, .string ⟨#[]⟩, .string ⟨#[]⟩, .string ⟨#[]⟩, .string ⟨#[]⟩, .string ⟨#[]⟩, .string ⟨#[]⟩, .string ⟨#[]⟩, .string ⟨#[]⟩, .string ⟨#[]⟩, .string ⟨#[]⟩])
  have R2 := Lib.hid (row17 X2.out)
  have R3 := Lib.hid (row17 X3.out)
  have HW0 := Lib.hid hW0
  clear hW0 X2 X3
  go_enter Try.func63, Try.ntmps63
  go_wp2
  rw [← HW0.out]
  clear HW0
  go_loopw [11] (fun i wr => ∃ k : Nat, k ≤ 17 ∧ i = .int .i64 k ∧ Below w.heap.size w wr ∧ Hid (Box wr w.heap.size 30 #[.slice A n c, .slice C m d]) ∧ Hid (wr.rowIs (w.heap.size + 1 + 1) 84 17 (fun _ => .string ⟨#[]⟩)) ∧ Hid (wr.rowIs (w.heap.size + 1 + 1 + 1) 84 17 (fun i => if i < k then .string ((loadL ss ws zs).getD i ByteArray.empty) else .string ⟨#[]⟩))) (fun i _ => 17 - (intOf i).toNat)
  case atStart => exact ⟨0, by omega, rfl, hb0, X0, R2, Lib.hid (R3.out.congr (fun i _ => by simp))⟩
  case round =>
    clear hb0 X0 R2 R3
    obtain ⟨k, hk, rfl, hbw, X0, R2, R3⟩ := hrel
    by_cases hlt : k < 17
    · obtain ⟨tb, toff, rfl, hc⟩ := (HT.out.below hbw) k (by rw [HL.out]; exact hlt)
      have hzk : 0 ≤ zs.getD k 0 ∧ zs.getD k 0 ≤ 47 := HZ.out _ (by rw [List.getD_eq_getElem?_getD, List.getElem?_eq_getElem (by rw [HL.out]; exact hlt)]; exact List.getElem_mem _)
      have HSt : Hid ((loadL ss ws zs).getD k ByteArray.empty = readS ss ws (zs.getD k 0)) := Lib.hid (by unfold loadL; rw [List.getD_eq_getElem?_getD, List.getElem?_map, List.getElem?_eq_getElem (by rw [HL.out]; exact hlt), List.getD_eq_getElem?_getD, List.getElem?_eq_getElem (by rw [HL.out]; exact hlt)]; rfl)
      generalize zs.getD k 0 = z at hc hzk HSt
      obtain ⟨zn, rfl⟩ : ∃ zn : Nat, z = zn := ⟨z.toNat, by omega⟩
      have HCk := Lib.hid (HC.out wr hbw zn (by omega))
      generalize readS ss ws (zn : Int) = s at HCk HSt
      have f0 := X0.out.cell 0 rfl
      have f1 := X0.out.cell 1 rfl
      have hi : (k : Int) < 17 := by omega
      go_wp2_with fail
      refine HCk.out.mono ?_
      rintro e w1 ⟨rfl, hb1⟩
      have Q3 := row_below hb1 R3.out R3.out.lt
      have Q2 := Lib.hid (row_below hb1 R2.out R2.out.lt)
      have Y0 := Lib.hid (X0.out.step hb1)
      have y0 := Q3.cell (i := k) hlt
      have y1 := Q3.frozen k
      simp only [Nat.lt_irrefl, if_false] at y0
      have HS3 := Lib.hid (Q3.set k (.string s))
      have hbz := bt hbw hb1
      clear f0 f1 hc Q3 R2 R3 X0
      go_wp2
      go_roundw
      case rel =>
        refine ⟨k + 1, by omega, by go_num, hbz.setCell (by show w.heap.size ≤ w.heap.size + 1 + 1 + 1; omega) _, Lib.hid (Y0.out.far (by show w.heap.size ≠ w.heap.size + 1 + 1 + 1; omega) _), Lib.hid (Q2.out.setOther (a := ⟨w.heap.size + 1 + 1 + 1, k, none⟩) (by show w.heap.size + 1 + 1 ≠ w.heap.size + 1 + 1 + 1; omega) _), Lib.hid (HS3.out.congr (fun i _ => ?_))⟩
        show (if i = k then Value.string s else if i < k then _ else _) = _
        by_cases e : i = k
        · subst e; rw [if_pos rfl, if_pos (by omega), HSt.out]
        · rw [if_neg e]
          by_cases e2 : i < k
          · rw [if_pos e2, if_pos (by omega)]
          · rw [if_neg e2, if_neg (by omega)]
      case measure => simp [intOf]; omega
    · obtain rfl : k = 17 := by omega
      have HLn : Hid (((loadL ss ws zs).map Value.string).length = 17) := Lib.hid (by rw [List.length_map]; unfold loadL; rw [List.length_map, HL.out])
      have HRg : Hid (wr.rangeAt (w.heap.size + 1 + 1 + 1) 0 ((loadL ss ws zs).map Value.string)) := Lib.hid (fun j v hj => by
        rw [List.getElem?_map] at hj
        have hj17 : j < 17 := by
          rcases Nat.lt_or_ge j 17 with q | q
          · exact q
          · rw [List.getElem?_eq_none (by have := HLn.out; rw [List.length_map] at this; omega)] at hj; cases hj
        have hlt' : j < (loadL ss ws zs).length := by have := HLn.out; rw [List.length_map] at this; omega
        rw [List.getElem?_eq_getElem hlt'] at hj
        injection hj with hj
        rw [Nat.zero_add, R3.out.cell hj17, if_pos hj17, ← hj, List.getD_eq_getElem?_getD, List.getElem?_eq_getElem hlt']; rfl)
      have HTh : Hid (wr.there (w.heap.size + 1 + 1) 0 17) := Lib.hid (fun j hj => by rw [Nat.zero_add, R2.out.cell hj, R2.out.frozen j]; exact ⟨rfl, rfl⟩)
      have HOn : Hid (∀ v ∈ (loadL ss ws zs).map Value.string, v.oneCell' = true) := Lib.hid (fun v hv => by obtain ⟨s, _, rfl⟩ := List.mem_map.1 hv; rfl)
      generalize hcs : (loadL ss ws zs).map Value.string = cs at HLn HRg HOn
      have HCs := Lib.hid hcs
      clear hcs
      have HRs := Lib.hid (World.rangeAt_setCells_same wr (w.heap.size + 1 + 1) 0 cs (by rw [HLn.out]; exact HTh.out))
      have hin : (Try.prog.info? 84).map (·.size) = some cs.length := by rw [HLn.out]; kernel_rfl
      have HIn := Lib.hid hin
      have HLd := Lib.hid (run_loadVar_mid (P := Try.prog) (wr.setCells (w.heap.size + 1 + 1) 0 cs) (w.heap.size + 1 + 1) 0 84 cs _ HRs.out Try.underlying84 rfl hin)
      clear hin R2 R3 X0
      go_wp2_with (first
        | (with_reducible refine wpList_load_mid rfl 84 (.tmp 5) rfl (w.heap.size + 1 + 1 + 1) 0 rfl cs _ HRg.out Try.underlying84 rfl HIn.out ?_)
        | (with_reducible refine wpList_store_mid rfl 84 (.tmp 4) (.tmp 22) rfl (w.heap.size + 1 + 1) 0 cs.toArray rfl rfl (by simpa [HLn.out] using HTh.out) (by simpa using HIn.out) (all_oneCell_toArray HOn.out) ?_))
      refine bodyPost_ret (v := .agg cs.toArray) (results_cell Try.results63 (by rfl) HLd.out) rfl ?_
      exact ⟨by rw [HCs.out], below_setCellsL hbw (by omega) 0 cs⟩

set_option maxRecDepth 100000 in
set_option maxHeartbeats 2000000 in
theorem tabList (rs : List ByteArray) (w : World) (hl : rs.length = 17) :
    Calls Try.prog 64 #[.agg (rs.map Value.string).toArray] w (GivesStrs rs w) := by
  have hmk : ∀ V : World, (Instr.makeSlice 22 (.int .i64 17) (.int .i64 17)).run Try.prog V = .ok (.slice (some ⟨V.heap.size, 0, none⟩) 17 17) (V.alloc (.cells (zS 17).toArray 9)) := fun V => makeS 17 (by omega) V
  have hb0 : Below w.heap.size w ((w.alloc (.cells (rs.map Value.string).toArray 84)).alloc (.cells (zS 17).toArray 9)) := bt (alloc_below _ _) (alloc_below _ _)
  have HL := Lib.hid hl
  have HN : Hid ((cellsS rs).length = 17) := Lib.hid (by rw [cellsS_len]; exact hl)
  have hg : Hid (((w.alloc (.cells (rs.map Value.string).toArray 84)).alloc (.cells (zS 17).toArray 9)).heap[w.heap.size + 1]? = some (.cells (zS 17).toArray 9 (0, 0))) := Lib.hid (by
    have := Box.new (w.alloc (.cells (rs.map Value.string).toArray 84)) 9 (zS 17).toArray
    rw [World.size_alloc] at this
    exact this)
  clear hl
  go_enter Try.func64, Try.ntmps64
  go_wp2_with (with_reducible refine wpList_copy_splice rfl (.tmp 5) (.tmp 6) 22 22 rfl 9 Try.underlying22 szStr _ _ 17 17 17 17 rfl rfl (w.heap.size + 1) 0 (zS 17) 9 hg.out (cellsS rs) ?h1 ?h2 ?h3 ?h4 w.heap.size w hb0 (by omega) ?_)
  case h1 => rw [HN.out]; simp
  case h2 => exact fun _ j v hv => by simpa [cellsS] using hv
  case h3 => rw [HN.out, zS_len]; omega
  case h4 => exact cellsS_one rs
  intro w2 hg2 hb2
  have HR : Hid (w2.rowIs (w.heap.size + 1) 9 17 (fun i => .string (rs.getD i ByteArray.empty))) := Lib.hid (by
    refine row_of_list HL.out ?_
    have := hg2.out
    rw [show splice (zS 17) 0 (cellsS rs) = rs.map Value.string from by
      unfold splice
      rw [HN.out, List.drop_of_length_le (by rw [zS_len]; omega)]; simp [cellsS]] at this
    exact this)
  clear hg2 hg hmk
  go_wp2
  go_ret
  exact ⟨_, _, _, rfl, HL, Lib.hid (.inr ⟨w.heap.size + 1, 17, _, rfl, by omega, HR.out.lt, by rw [HL.out]; omega, HR.out, fun i _ => rfl⟩), hb2⟩

set_option maxRecDepth 100000 in
set_option maxHeartbeats 2000000 in
theorem implLoad (A C : Option Addr) (n c m d : Nat) (ss : List ByteArray) (ws : List (Int × ByteArray)) (w : World) (hl : ss.length = n) (hm : ws.length = m) (hn : n ≤ maxLen) (hmm : m ≤ maxLen) (h : StrL w A ss) (g : WrL w C ws) (fs : FitS ss) (fw : FitW ws) :
    Calls Try.prog 28 #[.agg #[.slice A n c, .slice C m d]] w (GivesStrsCode (loadOf ss ws) w) := by
  have hb0 := alloc_below w (.cells #[.slice A n c, .slice C m d] 30)
  have X0 := Lib.hid (Box.new w 30 #[.slice A n c, .slice C m d])
  have HN := Lib.hid (implNewest A C n c m d ss ws _ hl hm hn hmm (h.below hb0) (g.below hb0) fs fw)
  have HF := Lib.hid (show loadOf ss ws = if (newOf ss ws).c = 0 then (loadL ss ws (newOf ss ws).z, 0) else ([], (newOf ss ws).c) from rfl)
  have HGd := Lib.hid (newOf_good ss ws)
  have HOk : Hid ((newOf ss ws).c = 0 → okDisk ss ws = true) := Lib.hid (fun q => by
    rcases newOf_cases ss ws with ⟨_, e⟩ | ⟨e, _⟩
    · rw [e] at q; simp at q
    · exact e)
  have HLd := Lib.hid (fun W (hb : Below w.heap.size w W) (hok : okDisk ss ws = true) (g' : Int) (T : Option Addr) (tc : Nat) (zs : List Int) (ht : zs.length = 17) (hz : ∀ z ∈ zs, 0 ≤ z ∧ z ≤ 47) (hT : IntL W T zs) => diskLoad A C n c m d ss ws g' T tc zs W hl hm hok (h.below hb) (g.below hb) ht hz hT)
  generalize newOf ss ws = b at HN HF HGd HOk
  generalize loadOf ss ws = r at HF
  clear hl hm hn hmm h g fs fw
  go_enter Try.func28, Try.ntmps28
  go_wp2_with fail
  refine HN.out.mono ?_
  rintro e w1 ⟨A1, n1, c1, rfl, L1, O1, hb1⟩
  have hb2 := bt (bt hb0 hb1) (alloc_below w1 (.cells #[.int .i64 b.g, .slice A1 n1 c1] 49))
  have Y0 := Lib.hid (X0.out.step (bt hb1 (alloc_below w1 (.cells #[.int .i64 b.g, .slice A1 n1 c1] 49))))
  have O2 := Lib.hid (O1.out.below (alloc_below w1 (.cells #[.int .i64 b.g, .slice A1 n1 c1] 49)))
  by_cases hc : b.c = 0
  · have hcb : (b.c != 0) = false := by simp [hc]
    have HR : Hid (r = (loadL ss ws b.z, 0)) := Lib.hid (by rw [HF.out, if_pos hc])
    have hgd := HGd.out hc
    obtain rfl : n1 = 17 := by have := L1.out; omega
    have HDl := Lib.hid (HLd.out _ hb2 (HOk.out hc) b.g A1 c1 b.z hgd.1 (fun z hz => by have := hgd.2 z hz; omega) O2.out.reads)
    have HTl := Lib.hid (fun W => tabList (loadL ss ws b.z) W (by unfold loadL; rw [List.length_map]; exact hgd.1))
    generalize loadL ss ws b.z = fz at HR HDl HTl
    have f0 := Y0.out.cell 0 rfl
    have f1 := Y0.out.cell 1 rfl
    clear hc hb0 hb1 hgd HLd HOk HGd HF HN
    go_wp2_with fail
    refine HDl.out.mono ?_
    rintro e w3 ⟨rfl, hb3⟩
    clear f0 f1
    go_wp2_with fail
    refine (HTl.out w3).mono ?_
    rintro e w4 ⟨A4, n4, c4, rfl, L4, O4, hb4⟩
    have HZ : Hid (w.heap.size ≤ w3.heap.size) := Lib.hid (bt hb2 hb3).size
    go_wp2
    refine bodyPost_ret (v := .tuple #[.slice A4 n4 c4, .int .i64 0]) (by simp [results, Try.results28, go_sem]) rfl ?_
    rw [HR.out]
    exact ⟨_, _, _, rfl, L4, Lib.hid (O4.out.wide' HZ.out (Nat.le_refl _)), bt (bt hb2 hb3) hb4⟩
  · have hcb : (b.c != 0) = true := by simp [hc]
    have HR : Hid (r = ([], b.c)) := Lib.hid (by rw [HF.out, if_neg hc])
    clear hc hb0 hb1
    go_wp2
    refine bodyPost_ret (v := .tuple #[.slice none 0 0, .int .i64 b.c]) (by simp [results, Try.results28, go_sem]) rfl ?_
    rw [HR.out]
    exact ⟨_, _, _, rfl, Lib.hid rfl, Lib.hid (.inl rfl), hb2⟩
end Go.Proofs.Ytlfmniekbiffjaa

/- Slices of booleans: as lists, of the call's own; contracts of szBoolS, toBoolS, eqBoolS, markBoolS, heldBoolS. -/
namespace Go.Proofs.Ytlfmniekbiffjaa
open Go.RowKit

/-- The slice at A holds these booleans. -/
def BoolL (w : World) (A : Option Addr) (gs : List Bool) : Prop :=
  ∀ i, i < gs.length → ∃ b off, A = some ⟨b, off, none⟩ ∧ w.cell? ⟨b, off + i, none⟩ = some (.bool (gs.getD i false))
theorem BoolL.below {w w' : World} {A : Option Addr} {gs : List Bool} (h : BoolL w A gs) (hb : Below w.heap.size w w') : BoolL w' A gs := fun i hi => by
  obtain ⟨b, off, e, hc⟩ := h i hi
  exact ⟨b, off, e, (hb.cell (cell_lt hc)).trans hc⟩
/-- A []bool of the call's own. -/
def OwnB (w : World) (lo hi : Nat) (A : Option Addr) (gs : List Bool) : Prop :=
  gs = [] ∨ ∃ b m f, A = some ⟨b, 0, none⟩ ∧ lo ≤ b ∧ b < hi ∧ gs.length ≤ m ∧ w.rowIs b 4 m f ∧ ∀ i, i < gs.length → f i = .bool (gs.getD i false)
theorem OwnB.reads {w : World} {lo hi : Nat} {A : Option Addr} {gs : List Bool} (h : OwnB w lo hi A gs) : BoolL w A gs := fun i hi' => by
  rcases h with rfl | ⟨b, m, f, e, _, _, hm, hr, hf⟩
  · simp at hi'
  · exact ⟨b, 0, e, by rw [← hf i hi', Nat.zero_add]; exact hr.cell (by omega)⟩
theorem OwnB.btw {w w' : World} {lo hi l h' : Nat} {A : Option Addr} {gs : List Bool} (h : OwnB w lo hi A gs) (hb : Btw l h' w w') (ho : hi ≤ l ∨ h' ≤ lo) : OwnB w' lo hi A gs := by
  rcases h with e | ⟨b, m, f, e, h1, h2, hm, hr, hf⟩
  · exact .inl e
  · exact .inr ⟨b, m, f, e, h1, h2, hm, hb.row hr (by omega), hf⟩
theorem OwnB.below {w w' : World} {lo hi : Nat} {A : Option Addr} {gs : List Bool} (h : OwnB w lo hi A gs) (hb : Below w.heap.size w w') : OwnB w' lo hi A gs := h.btw (Btw.of_below hb hi hi) (.inl (Nat.le_refl _))
theorem OwnB.wide {w : World} {lo hi lo' hi' : Nat} {A : Option Addr} {gs : List Bool} (h : OwnB w lo hi A gs) (h1 : lo' ≤ lo) (h2 : hi ≤ hi') : OwnB w lo' hi' A gs := by
  rcases h with e | ⟨b, m, f, e, p1, p2, hm, hr, hf⟩
  · exact .inl e
  · exact .inr ⟨b, m, f, e, by omega, by omega, hm, hr, hf⟩
theorem OwnB.far {w : World} {lo hi : Nat} {A : Option Addr} {gs : List Bool} (h : OwnB w lo hi A gs) {b : Nat} {t : TypeId} {cs : Array Value} (X : Box w b t cs) (ht : t ≠ 4) (i : Nat) (u : Value) : OwnB (w.setCell ⟨b, i, none⟩ u) lo hi A gs := by
  rcases h with e | ⟨b', m, f, e, p1, p2, hm, hr, hf⟩
  · exact .inl e
  · exact .inr ⟨b', m, f, e, p1, p2, hm, hr.setOther (a := ⟨b, i, none⟩) (by exact (X.ne hr ht).symm) u, hf⟩
/-- The block of this row alone. -/
theorem OwnB.narrow {w : World} {lo hi : Nat} {A : Option Addr} {gs : List Bool} (h : OwnB w lo hi A gs) : ∃ l r, lo ≤ l ∧ r ≤ hi ∧ OwnB w l r A gs ∧ ∀ b n f, w.rowIs b 3 n f → b < l ∨ r ≤ b := by
  rcases h with e | ⟨b, m, f, e, q1, q2, q3, q4, q5⟩
  · exact ⟨lo, 0, Nat.le_refl _, Nat.zero_le _, .inl e, fun _ _ _ _ => .inr (Nat.zero_le _)⟩
  · refine ⟨b, b + 1, q1, by omega, .inr ⟨b, m, f, e, Nat.le_refl _, by omega, q3, q4, q5⟩, fun b' n' f' h' => ?_⟩
    have := row_ne q4 h' (by decide)
    omega
theorem OwnB.apart {w w' : World} {lo hi l r : Nat} {A : Option Addr} {gs : List Bool} (h : OwnB w lo hi A gs) (hb : Btw l r w w') (ha : ∀ b n f, w.rowIs b 4 n f → b < l ∨ r ≤ b) : OwnB w' lo hi A gs := by
  rcases h with e | ⟨b, m, f, e, q1, q2, q3, q4, q5⟩
  · exact .inl e
  · exact .inr ⟨b, m, f, e, q1, q2, q3, hb.row q4 (ha b m f q4), q5⟩
/-- The same of a []int against a []bool. -/
theorem OwnI.narrowB {w : World} {lo hi : Nat} {A : Option Addr} {zs : List Int} (h : OwnI w lo hi A zs) : ∃ l r, lo ≤ l ∧ r ≤ hi ∧ OwnI w l r A zs ∧ ∀ b n f, w.rowIs b 4 n f → b < l ∨ r ≤ b := by
  rcases h with e | ⟨b, m, f, e, q1, q2, q3, q4, q5⟩
  · exact ⟨lo, 0, Nat.le_refl _, Nat.zero_le _, .inl e, fun _ _ _ _ => .inr (Nat.zero_le _)⟩
  · refine ⟨b, b + 1, q1, by omega, .inr ⟨b, m, f, e, Nat.le_refl _, by omega, q3, q4, q5⟩, fun b' n' f' h' => ?_⟩
    have := row_ne q4 h' (by decide)
    omega
theorem OwnI.apartB {w w' : World} {lo hi l r : Nat} {A : Option Addr} {zs : List Int} (h : OwnI w lo hi A zs) (hb : Btw l r w w') (ha : ∀ b n f, w.rowIs b 3 n f → b < l ∨ r ≤ b) : OwnI w' lo hi A zs := by
  rcases h with e | ⟨b, m, f, e, q1, q2, q3, q4, q5⟩
  · exact .inl e
  · exact .inr ⟨b, m, f, e, q1, q2, q3, hb.row q4 (ha b m f q4), q5⟩
theorem OwnI.wideB {w : World} {lo hi lo' hi' : Nat} {A : Option Addr} {zs : List Int} (h : OwnI w lo hi A zs) (h1 : lo' ≤ lo) (h2 : hi ≤ hi') : OwnI w lo' hi' A zs := by
  rcases h with e | ⟨b, m, f, e, p1, p2, hm, hr, hf⟩
  · exact .inl e
  · exact .inr ⟨b, m, f, e, by omega, by omega, hm, hr, hf⟩
theorem OwnI.farB {w : World} {lo hi : Nat} {A : Option Addr} {zs : List Int} (h : OwnI w lo hi A zs) {b : Nat} {t : TypeId} {cs : Array Value} (X : Box w b t cs) (ht : t ≠ 3) (i : Nat) (u : Value) : OwnI (w.setCell ⟨b, i, none⟩ u) lo hi A zs := by
  rcases h with e | ⟨b', m, f, e, p1, p2, hm, hr, hf⟩
  · exact .inl e
  · exact .inr ⟨b', m, f, e, p1, p2, hm, hr.setOther (a := ⟨b, i, none⟩) (by exact (X.ne hr ht).symm) u, hf⟩

set_option maxRecDepth 100000 in
theorem infoB : (Try.prog.info? 4).map (fun i => (i.zero, i.size, i.bytes)) = some (some (.bool false), 1, 1) := by kernel_rfl

/-- The call hands back a []bool of its own. -/
def GivesBools (gs : List Bool) (w : World) (e : Ending) (w' : World) : Prop :=
  ∃ A n c, e = .returned (.slice A n c) ∧ Hid (gs.length = n) ∧ Hid (OwnB w' w.heap.size w'.heap.size A gs) ∧ n ≤ c ∧ Below w.heap.size w w'

def marksB (k n : Nat) : List Bool := (List.range n).map fun i => decide ((k + i) % 3 = 0)
theorem marksB_len (k n : Nat) : (marksB k n).length = n := by simp [marksB]
theorem marksB_at (k n i : Nat) (h : i < n) : (marksB k n).getD i false = decide ((k + i) % 3 = 0) := by simp [marksB, List.getD_eq_getElem?_getD, h]
def MarkedBs (lo hi : Nat) (A : Option Addr) (k n : Nat) (w : World) (e : Ending) (w' : World) : Prop :=
  e = .returned (.int .i64 ((k + n : Nat) : Int)) ∧ Hid (OwnB w' lo hi A (marksB k n)) ∧ Btw lo hi w w'
theorem rem3 (z : Nat) : ((z : Int) % 3 == 0) = decide (z % 3 = 0) := by
  rw [Bool.eq_iff_iff]
  simp only [beq_iff_eq, decide_eq_true_eq]
  omega

end Go.Proofs.Ytlfmniekbiffjaa

/- append of a whole row onto an empty literal; lists as rows of one cell each. -/
namespace Go.Proofs.Ytlfmniekbiffjaa
open Go.RowKit

theorem row_of_owns {α : Type} (mk : α → Value) (dflt : α) {w : World} {base n : Nat} {t : TypeId} {v : Value} {ss : List α} (h : w.ownsRow base t 1 v n (ss.map mk)) (hn : 0 < n) : ∃ g cap m f, v = .slice (some ⟨g, 0, none⟩) n cap ∧ base ≤ g ∧ n ≤ m ∧ ss.length = n ∧ w.rowIs g t m f ∧ ∀ i, i < n → f i = mk (ss.getD i dflt) := by
  obtain ⟨hl, h0 | ⟨g, cap, cur, rfl, hb, hg, hnc, _, hsz, htk⟩⟩ := h
  · omega
  · rw [List.length_map, Nat.mul_one] at hl
    rw [Nat.mul_one] at hsz htk
    refine ⟨g, cap, cap, fun i => cur.toList.getD i undef, rfl, hb, hnc, hl, ⟨cur, hg, hsz, fun i hi => ?_⟩, fun i hi => ?_⟩
    · have : i < cur.toList.length := by simp [hsz, hi]
      show cur[i]? = some (cur.toList.getD i undef)
      rw [List.getD_eq_getElem?_getD, List.getElem?_eq_getElem this, ← Array.getElem?_toList, List.getElem?_eq_getElem this]
      rfl
    · have h1 : (cur.toList.take n)[i]? = (ss.map mk)[i]? := by rw [htk]
      rw [List.getElem?_take, if_pos hi] at h1
      show cur.toList.getD i undef = _
      rw [List.getD_eq_getElem?_getD, h1, List.getElem?_map, List.getD_eq_getElem?_getD, List.getElem?_eq_getElem (by omega)]
      rfl

def cellsI (zs : List Int) : List Value := zs.map fun z => .int .i64 z
def cellsB (gs : List Bool) : List Value := gs.map Value.bool
theorem cellsI_len (zs : List Int) : (cellsI zs).length = zs.length := by simp [cellsI]
theorem cellsB_len (gs : List Bool) : (cellsB gs).length = gs.length := by simp [cellsB]
theorem ownI_fresh {w' : World} {A : Option Addr} {n cap lo base : Nat} {zs : List Int} (h : w'.ownsRow base 3 1 (.slice A n cap) n (cellsI zs)) (hn : 0 < n) (hlo : lo ≤ base) : OwnI w' lo w'.heap.size A zs := by
  obtain ⟨g, cap', m, f, e, q1, q2, q3, q4, q5⟩ := row_of_owns (fun z => Value.int .i64 z) 0 h hn
  injection e with e _ _
  subst e
  exact .inr ⟨g, m, f, rfl, by omega, q4.lt, by omega, q4, fun i hi => q5 i (by omega)⟩
theorem ownB_fresh {w' : World} {A : Option Addr} {n cap lo base : Nat} {gs : List Bool} (h : w'.ownsRow base 4 1 (.slice A n cap) n (cellsB gs)) (hn : 0 < n) (hlo : lo ≤ base) : OwnB w' lo w'.heap.size A gs := by
  obtain ⟨g, cap', m, f, e, q1, q2, q3, q4, q5⟩ := row_of_owns Value.bool false h hn
  injection e with e _ _
  subst e
  exact .inr ⟨g, m, f, rfl, by omega, q4.lt, by omega, q4, fun i hi => q5 i (by omega)⟩
theorem addr_add (b off j : Nat) : (⟨b, off, none⟩ : Addr).add j = ⟨b, off + j, none⟩ := by unfold Addr.add; split <;> simp_all
theorem IntL.src {w : World} {A : Option Addr} {zs : List Int} (h : IntL w A zs) (hn : 0 < zs.length) : ∃ ad, A = some ad ∧ ∀ j u, (cellsI zs)[j]? = some u → w.cell? (ad.add j) = some u := by
  obtain ⟨b, off, e, _⟩ := h 0 hn
  refine ⟨_, e, fun j u hj => ?_⟩
  have hj' : j < zs.length := by
    have := (List.getElem?_eq_some_iff.1 hj).1
    rwa [cellsI_len] at this
  obtain ⟨b', off', e', hc⟩ := h j hj'
  rw [e] at e'
  injection e' with e'
  injection e' with e1 e2 _
  subst e1 e2
  rw [addr_add, hc, ← hj]
  unfold cellsI
  rw [List.getElem?_map, List.getD_eq_getElem?_getD, List.getElem?_eq_getElem hj']
  rfl
theorem BoolL.src {w : World} {A : Option Addr} {gs : List Bool} (h : BoolL w A gs) (hn : 0 < gs.length) : ∃ ad, A = some ad ∧ ∀ j u, (cellsB gs)[j]? = some u → w.cell? (ad.add j) = some u := by
  obtain ⟨b, off, e, _⟩ := h 0 hn
  refine ⟨_, e, fun j u hj => ?_⟩
  have hj' : j < gs.length := by
    have := (List.getElem?_eq_some_iff.1 hj).1
    rwa [cellsB_len] at this
  obtain ⟨b', off', e', hc⟩ := h j hj'
  rw [e] at e'
  injection e' with e'
  injection e' with e1 e2 _
  subst e1 e2
  rw [addr_add, hc, ← hj]
  unfold cellsB
  rw [List.getElem?_map, List.getD_eq_getElem?_getD, List.getElem?_eq_getElem hj']
  rfl
set_option maxRecDepth 100000 in
theorem infoBx : ∃ i : TypeInfo, Try.prog.info? 4 = some i ∧ i.zero = some (.bool false) ∧ i.size = 1 ∧ i.bytes = 1 := by
  obtain ⟨i, hi, hzz⟩ := Option.map_eq_some_iff.1 infoB
  simp only [Prod.mk.injEq] at hzz
  exact ⟨i, hi, hzz.1, hzz.2.1, hzz.2.2⟩

/-- One element of a row of the call's own is written. -/
theorem OwnI.put {w : World} {lo hi : Nat} {A : Option Addr} {zs : List Int} (h : OwnI w lo hi A zs) (k : Nat) (hk : k < zs.length) :
    ∃ b m f, A = some ⟨b, 0, none⟩ ∧ w.cell? ⟨b, k, none⟩ = some (.int .i64 (zs.getD k 0)) ∧ w.frozen? ⟨b, k, none⟩ = false ∧ lo ≤ b ∧ b < hi ∧ w.rowIs b 3 m f ∧ ∀ x, OwnI (w.setCell ⟨b, k, none⟩ (.int .i64 x)) lo hi A (zs.set k x) := by
  rcases h with rfl | ⟨b, m, f, e, h1, h2, hm, hr, hf⟩
  · simp at hk
  · refine ⟨b, m, f, e, by rw [← hf k hk]; exact hr.cell (by omega), hr.frozen k, h1, h2, hr, fun x => .inr ⟨b, m, _, e, h1, h2, by simpa using hm, hr.set k (.int .i64 x), fun i hi' => ?_⟩⟩
    have hi2 : i < zs.length := by simpa using hi'
    show (if i = k then Value.int .i64 x else f i) = _
    by_cases q : i = k
    · subst q
      rw [if_pos rfl, List.getD_eq_getElem?_getD, List.getElem?_set_self hk]
      rfl
    · rw [if_neg q, hf i hi2, List.getD_eq_getElem?_getD, List.getD_eq_getElem?_getD, List.getElem?_set_ne (fun e => q e.symm)]
theorem OwnB.put {w : World} {lo hi : Nat} {A : Option Addr} {zs : List Bool} (h : OwnB w lo hi A zs) (k : Nat) (hk : k < zs.length) :
    ∃ b m f, A = some ⟨b, 0, none⟩ ∧ w.cell? ⟨b, k, none⟩ = some (.bool (zs.getD k false)) ∧ w.frozen? ⟨b, k, none⟩ = false ∧ lo ≤ b ∧ b < hi ∧ w.rowIs b 4 m f ∧ ∀ x, OwnB (w.setCell ⟨b, k, none⟩ (.bool x)) lo hi A (zs.set k x) := by
  rcases h with rfl | ⟨b, m, f, e, h1, h2, hm, hr, hf⟩
  · simp at hk
  · refine ⟨b, m, f, e, by rw [← hf k hk]; exact hr.cell (by omega), hr.frozen k, h1, h2, hr, fun x => .inr ⟨b, m, _, e, h1, h2, by simpa using hm, hr.set k (.bool x), fun i hi' => ?_⟩⟩
    have hi2 : i < zs.length := by simpa using hi'
    show (if i = k then Value.bool x else f i) = _
    by_cases q : i = k
    · subst q
      rw [if_pos rfl, List.getD_eq_getElem?_getD, List.getElem?_set_self hk]
      rfl
    · rw [if_neg q, hf i hi2, List.getD_eq_getElem?_getD, List.getD_eq_getElem?_getD, List.getElem?_set_ne (fun e => q e.symm)]
/-- A write into a row of another type leaves it. -/
theorem OwnB.other {w : World} {lo hi : Nat} {A : Option Addr} {gs : List Bool} (h : OwnB w lo hi A gs) {b m : Nat} {t : TypeId} {f : Nat → Value} (hr : w.rowIs b t m f) (ht : t ≠ 4) (i : Nat) (u : Value) : OwnB (w.setCell ⟨b, i, none⟩ u) lo hi A gs := by
  rcases h with e | ⟨b', m', f', e, p1, p2, hm, hr', hf⟩
  · exact .inl e
  · exact .inr ⟨b', m', f', e, p1, p2, hm, hr'.setOther (a := ⟨b, i, none⟩) (by exact (row_ne hr hr' ht).symm) u, hf⟩
theorem OwnI.other {w : World} {lo hi : Nat} {A : Option Addr} {zs : List Int} (h : OwnI w lo hi A zs) {b m : Nat} {t : TypeId} {f : Nat → Value} (hr : w.rowIs b t m f) (ht : t ≠ 3) (i : Nat) (u : Value) : OwnI (w.setCell ⟨b, i, none⟩ u) lo hi A zs := by
  rcases h with e | ⟨b', m', f', e, p1, p2, hm, hr', hf⟩
  · exact .inl e
  · exact .inr ⟨b', m', f', e, p1, p2, hm, hr'.setOther (a := ⟨b, i, none⟩) (by exact (row_ne hr hr' ht).symm) u, hf⟩
theorem Box.other {w : World} {b : Nat} {t : TypeId} {cs : Array Value} (X : Box w b t cs) {b' m : Nat} {t' : TypeId} {f : Nat → Value} (hr : w.rowIs b' t' m f) (ht : t ≠ t') (i : Nat) (u : Value) : Box (w.setCell ⟨b', i, none⟩ u) b t cs :=
  X.far (p := ⟨b', i, none⟩) (X.ne hr ht) u
end Go.Proofs.Ytlfmniekbiffjaa

/- The program's tables: tableOf, changes, with, list. Written by gen_table.py. -/
namespace Go.Proofs.Ytlfmniekbiffjaa
open Go.RowKit

theorem splice_all' {α : Type} (l m : List α) (h : l.length = m.length) : splice l 0 m = m := by
  unfold splice
  rw [List.take_zero, List.nil_append, Nat.zero_add, ← h, List.drop_length, List.append_nil]
set_option maxRecDepth 100000 in
theorem szInt1 : (Try.prog.info? 3).map (·.size) = some 1 := by kernel_rfl
theorem cellsI_one (zs : List Int) : ∀ v ∈ cellsI zs, v.oneCell' = true := fun v hv => by unfold cellsI at hv; obtain ⟨q, _, rfl⟩ := List.mem_map.1 hv; rfl

set_option maxRecDepth 100000 in
set_option maxHeartbeats 2000000 in
theorem tableOfS (A : Option Addr) (c : Nat) (ps : List ByteArray) (w : World) (hl : ps.length = 17) (h : StrL w A ps) :
    Calls Try.prog 82 #[.slice A 17 c] w fun e w' => e = .returned (.agg (cellsS ps).toArray) ∧ Below w.heap.size w w' := by
  obtain ⟨W0, hW0⟩ : ∃ W0, W0 = ((w.alloc (.cells #[.string ⟨#[]⟩, .string ⟨#[]⟩, .string ⟨#[]⟩, .string ⟨#[]⟩, .string ⟨#[]⟩, .string ⟨#[]⟩, .string ⟨#[]⟩, .string ⟨#[]⟩, .string ⟨#[]⟩, .string ⟨#[]⟩, .string ⟨#[]⟩, .string ⟨#[]⟩, .string ⟨#[]⟩, .string ⟨#[]⟩, .string ⟨#[]⟩, .string ⟨#[]⟩, .string ⟨#[]⟩] 84)).alloc (.cells #[.string ⟨#[]⟩, .string ⟨#[]⟩, .string ⟨#[]⟩, .string ⟨#[]⟩, .string ⟨#[]⟩, .string ⟨#[]⟩, .string ⟨#[]⟩, .string ⟨#[]⟩, .string ⟨#[]⟩, .string ⟨#[]⟩, .string ⟨#[]⟩, .string ⟨#[]⟩, .string ⟨#[]⟩, .string ⟨#[]⟩, .string ⟨#[]⟩, .string ⟨#[]⟩, .string ⟨#[]⟩] 84)) := ⟨_, rfl⟩
  have hb0 : Below w.heap.size w W0 := by rw [hW0]; exact bt (alloc_below _ _) (alloc_below _ _)
  have hX : Box W0 w.heap.size 84 #[.string ⟨#[]⟩, .string ⟨#[]⟩, .string ⟨#[]⟩, .string ⟨#[]⟩, .string ⟨#[]⟩, .string ⟨#[]⟩, .string ⟨#[]⟩, .string ⟨#[]⟩, .string ⟨#[]⟩, .string ⟨#[]⟩, .string ⟨#[]⟩, .string ⟨#[]⟩, .string ⟨#[]⟩, .string ⟨#[]⟩, .string ⟨#[]⟩, .string ⟨#[]⟩, .string ⟨#[]⟩] := by rw [hW0]; exact (Box.new _ _ _).alloc _
  have HG : Hid (W0.heap[w.heap.size + 1]? = some (.cells (List.replicate 17 (.string ⟨#[]⟩ : Value)).toArray 84 (0, 0))) := Lib.hid (by
    have : Box W0 (w.heap.size + 1) 84 #[.string ⟨#[]⟩, .string ⟨#[]⟩, .string ⟨#[]⟩, .string ⟨#[]⟩, .string ⟨#[]⟩, .string ⟨#[]⟩, .string ⟨#[]⟩, .string ⟨#[]⟩, .string ⟨#[]⟩, .string ⟨#[]⟩, .string ⟨#[]⟩, .string ⟨#[]⟩, .string ⟨#[]⟩, .string ⟨#[]⟩, .string ⟨#[]⟩, .string ⟨#[]⟩, .string ⟨#[]⟩] := by rw [hW0]; simpa using Box.new (w.alloc (.cells #[.string ⟨#[]⟩, .string ⟨#[]⟩, .string ⟨#[]⟩, .string ⟨#[]⟩, .string ⟨#[]⟩, .string ⟨#[]⟩, .string ⟨#[]⟩, .string ⟨#[]⟩, .string ⟨#[]⟩, .string ⟨#[]⟩, .string ⟨#[]⟩, .string ⟨#[]⟩, .string ⟨#[]⟩, .string ⟨#[]⟩, .string ⟨#[]⟩, .string ⟨#[]⟩, .string ⟨#[]⟩] 84)) 84 #[.string ⟨#[]⟩, .string ⟨#[]⟩, .string ⟨#[]⟩, .string ⟨#[]⟩, .string ⟨#[]⟩, .string ⟨#[]⟩, .string ⟨#[]⟩, .string ⟨#[]⟩, .string ⟨#[]⟩, .string ⟨#[]⟩, .string ⟨#[]⟩, .string ⟨#[]⟩, .string ⟨#[]⟩, .string ⟨#[]⟩, .string ⟨#[]⟩, .string ⟨#[]⟩, .string ⟨#[]⟩]
    exact this)
  obtain ⟨Z, hZ⟩ : ∃ Z : List Value, Z = List.replicate 17 (.string ⟨#[]⟩ : Value) := ⟨_, rfl⟩
  rw [← hZ] at HG
  have HZ : Hid (Z.length = 17) := Lib.hid (by rw [hZ, List.length_replicate])
  clear hZ
  have HN : Hid ((cellsS ps).length = 17) := Lib.hid (by rw [cellsS_len]; exact hl)
  have HSrc := Lib.hid (fun q => (h.below hb0).src (by first | exact q | omega))
  have HX := Lib.hid hX
  have HW0 := Lib.hid hW0
  have HR0 : Hid (Below (w.heap.size + 1) W0 W0) := Lib.hid (Below.refl _ _)
  clear hl h hW0 hX
  go_enter Try.func82, Try.ntmps82
  go_wp2_with (rw [← HW0.out]; with_reducible refine wpList_copy_splice rfl (.tmp 4) (.tmp 5) 22 22 rfl 9 Try.underlying22 szStr _ _ 17 17 17 c rfl rfl (w.heap.size + 1) 0 Z 84 HG.out (cellsS ps) ?h1 ?h2 ?h3 ?h4 (w.heap.size + 1) W0 HR0.out (Nat.le_refl _) ?_)
  case h1 => rw [HN.out]; rfl
  case h2 => first | exact fun q => ⟨rfl, HSrc.out (by first | exact q | (have := HN.out; rw [cellsS_len] at this; omega))⟩ | exact fun q => HSrc.out (by first | exact q | (have := HN.out; rw [cellsS_len] at this; omega))
  case h3 => rw [HN.out, HZ.out]; omega
  case h4 => exact cellsS_one ps
  intro w2 hg2 hb2
  have HB2 : Hid (Box w2 (w.heap.size + 1) 84 (cellsS ps).toArray) := Lib.hid (by
    have := hg2.out
    rw [show splice Z 0 (cellsS ps) = cellsS ps from splice_all' _ _ (by rw [HN.out, HZ.out])] at this
    exact this)
  have hX2 := HX.out.below hb2 (by omega)
  have hbz : Below w.heap.size w w2 := hb0.trans (hb2.mono (by omega))
  have HRg : Hid (w2.rangeAt (w.heap.size + 1) 0 (cellsS ps)) := Lib.hid (fun j v hj => by rw [Nat.zero_add]; exact HB2.out.cell j (by simpa using hj))
  have HTh : Hid (w2.there w.heap.size 0 17) := Lib.hid (fun j hj => by
    rw [Nat.zero_add]
    have : (#[.string ⟨#[]⟩, .string ⟨#[]⟩, .string ⟨#[]⟩, .string ⟨#[]⟩, .string ⟨#[]⟩, .string ⟨#[]⟩, .string ⟨#[]⟩, .string ⟨#[]⟩, .string ⟨#[]⟩, .string ⟨#[]⟩, .string ⟨#[]⟩, .string ⟨#[]⟩, .string ⟨#[]⟩, .string ⟨#[]⟩, .string ⟨#[]⟩, .string ⟨#[]⟩, .string ⟨#[]⟩] : Array Value) = Array.replicate 17 (.string ⟨#[]⟩) := rfl
    exact ⟨by rw [hX2.cell j (v := .string ⟨#[]⟩) (by rw [this, Array.getElem?_replicate, if_pos hj])]; rfl, hX2.frozen j⟩)
  have HOn : Hid (∀ v ∈ cellsS ps, v.oneCell' = true) := Lib.hid (cellsS_one ps)
  generalize hcs : cellsS ps = cs at HN HRg HOn
  have HCs := Lib.hid hcs
  have HRs := Lib.hid (World.rangeAt_setCells_same w2 w.heap.size 0 cs (by rw [HN.out]; exact HTh.out))
  have hin : (Try.prog.info? 84).map (·.size) = some cs.length := by rw [HN.out]; kernel_rfl
  have HIn := Lib.hid hin
  have HLd := Lib.hid (run_loadVar_mid (P := Try.prog) (w2.setCells w.heap.size 0 cs) w.heap.size 0 84 cs _ HRs.out Try.underlying84 rfl hin)
  clear hin hcs hX2 hg2 hb2 HB2 HX HSrc HG
  go_wp2_with (first
    | (with_reducible refine wpList_load_mid rfl 84 (.tmp 3) rfl (w.heap.size + 1) 0 rfl cs _ HRg.out Try.underlying84 rfl HIn.out ?_)
    | (with_reducible refine wpList_store_mid rfl 84 (.tmp 2) (.tmp 7) rfl w.heap.size 0 cs.toArray rfl rfl (by simpa [HN.out] using HTh.out) (by simpa using HIn.out) (all_oneCell_toArray HOn.out) ?_))
  refine bodyPost_ret (v := .agg cs.toArray) (results_cell Try.results82 (by rfl) HLd.out) rfl ?_
  exact ⟨by rw [HCs.out], below_setCellsL hbz (Nat.le_refl _) 0 cs⟩
set_option maxRecDepth 100000 in
set_option maxHeartbeats 2000000 in
theorem tableOfI (A : Option Addr) (c : Nat) (ps : List Int) (w : World) (hl : ps.length = 17) (h : IntL w A ps) :
    Calls Try.prog 84 #[.slice A 17 c] w fun e w' => e = .returned (.agg (cellsI ps).toArray) ∧ Below w.heap.size w w' := by
  obtain ⟨W0, hW0⟩ : ∃ W0, W0 = ((w.alloc (.cells #[.int .i64 0, .int .i64 0, .int .i64 0, .int .i64 0, .int .i64 0, .int .i64 0, .int .i64 0, .int .i64 0, .int .i64 0, .int .i64 0, .int .i64 0, .int .i64 0, .int .i64 0, .int .i64 0, .int .i64 0, .int .i64 0, .int .i64 0] 106)).alloc (.cells #[.int .i64 0, .int .i64 0, .int .i64 0, .int .i64 0, .int .i64 0, .int .i64 0, .int .i64 0, .int .i64 0, .int .i64 0, .int .i64 0, .int .i64 0, .int .i64 0, .int .i64 0, .int .i64 0, .int .i64 0, .int .i64 0, .int .i64 0] 106)) := ⟨_, rfl⟩
  have hb0 : Below w.heap.size w W0 := by rw [hW0]; exact bt (alloc_below _ _) (alloc_below _ _)
  have hX : Box W0 w.heap.size 106 #[.int .i64 0, .int .i64 0, .int .i64 0, .int .i64 0, .int .i64 0, .int .i64 0, .int .i64 0, .int .i64 0, .int .i64 0, .int .i64 0, .int .i64 0, .int .i64 0, .int .i64 0, .int .i64 0, .int .i64 0, .int .i64 0, .int .i64 0] := by rw [hW0]; exact (Box.new _ _ _).alloc _
  have HG : Hid (W0.heap[w.heap.size + 1]? = some (.cells (List.replicate 17 (.int .i64 0 : Value)).toArray 106 (0, 0))) := Lib.hid (by
    have : Box W0 (w.heap.size + 1) 106 #[.int .i64 0, .int .i64 0, .int .i64 0, .int .i64 0, .int .i64 0, .int .i64 0, .int .i64 0, .int .i64 0, .int .i64 0, .int .i64 0, .int .i64 0, .int .i64 0, .int .i64 0, .int .i64 0, .int .i64 0, .int .i64 0, .int .i64 0] := by rw [hW0]; simpa using Box.new (w.alloc (.cells #[.int .i64 0, .int .i64 0, .int .i64 0, .int .i64 0, .int .i64 0, .int .i64 0, .int .i64 0, .int .i64 0, .int .i64 0, .int .i64 0, .int .i64 0, .int .i64 0, .int .i64 0, .int .i64 0, .int .i64 0, .int .i64 0, .int .i64 0] 106)) 106 #[.int .i64 0, .int .i64 0, .int .i64 0, .int .i64 0, .int .i64 0, .int .i64 0, .int .i64 0, .int .i64 0, .int .i64 0, .int .i64 0, .int .i64 0, .int .i64 0, .int .i64 0, .int .i64 0, .int .i64 0, .int .i64 0, .int .i64 0]
    exact this)
  obtain ⟨Z, hZ⟩ : ∃ Z : List Value, Z = List.replicate 17 (.int .i64 0 : Value) := ⟨_, rfl⟩
  rw [← hZ] at HG
  have HZ : Hid (Z.length = 17) := Lib.hid (by rw [hZ, List.length_replicate])
  clear hZ
  have HN : Hid ((cellsI ps).length = 17) := Lib.hid (by rw [cellsI_len]; exact hl)
  have HSrc := Lib.hid (fun q => (h.below hb0).src (by first | exact q | omega))
  have HX := Lib.hid hX
  have HW0 := Lib.hid hW0
  have HR0 : Hid (Below (w.heap.size + 1) W0 W0) := Lib.hid (Below.refl _ _)
  clear hl h hW0 hX
  go_enter Try.func84, Try.ntmps84
  go_wp2_with (rw [← HW0.out]; with_reducible refine wpList_copy_splice rfl (.tmp 4) (.tmp 5) 39 39 rfl 3 Try.underlying39 szInt1 _ _ 17 17 17 c rfl rfl (w.heap.size + 1) 0 Z 106 HG.out (cellsI ps) ?h1 ?h2 ?h3 ?h4 (w.heap.size + 1) W0 HR0.out (Nat.le_refl _) ?_)
  case h1 => rw [HN.out]; rfl
  case h2 => first | exact fun q => ⟨rfl, HSrc.out (by first | exact q | (have := HN.out; rw [cellsI_len] at this; omega))⟩ | exact fun q => HSrc.out (by first | exact q | (have := HN.out; rw [cellsI_len] at this; omega))
  case h3 => rw [HN.out, HZ.out]; omega
  case h4 => exact cellsI_one ps
  intro w2 hg2 hb2
  have HB2 : Hid (Box w2 (w.heap.size + 1) 106 (cellsI ps).toArray) := Lib.hid (by
    have := hg2.out
    rw [show splice Z 0 (cellsI ps) = cellsI ps from splice_all' _ _ (by rw [HN.out, HZ.out])] at this
    exact this)
  have hX2 := HX.out.below hb2 (by omega)
  have hbz : Below w.heap.size w w2 := hb0.trans (hb2.mono (by omega))
  have HRg : Hid (w2.rangeAt (w.heap.size + 1) 0 (cellsI ps)) := Lib.hid (fun j v hj => by rw [Nat.zero_add]; exact HB2.out.cell j (by simpa using hj))
  have HTh : Hid (w2.there w.heap.size 0 17) := Lib.hid (fun j hj => by
    rw [Nat.zero_add]
    have : (#[.int .i64 0, .int .i64 0, .int .i64 0, .int .i64 0, .int .i64 0, .int .i64 0, .int .i64 0, .int .i64 0, .int .i64 0, .int .i64 0, .int .i64 0, .int .i64 0, .int .i64 0, .int .i64 0, .int .i64 0, .int .i64 0, .int .i64 0] : Array Value) = Array.replicate 17 (.int .i64 0) := rfl
    exact ⟨by rw [hX2.cell j (v := .int .i64 0) (by rw [this, Array.getElem?_replicate, if_pos hj])]; rfl, hX2.frozen j⟩)
  have HOn : Hid (∀ v ∈ cellsI ps, v.oneCell' = true) := Lib.hid (cellsI_one ps)
  generalize hcs : cellsI ps = cs at HN HRg HOn
  have HCs := Lib.hid hcs
  have HRs := Lib.hid (World.rangeAt_setCells_same w2 w.heap.size 0 cs (by rw [HN.out]; exact HTh.out))
  have hin : (Try.prog.info? 106).map (·.size) = some cs.length := by rw [HN.out]; kernel_rfl
  have HIn := Lib.hid hin
  have HLd := Lib.hid (run_loadVar_mid (P := Try.prog) (w2.setCells w.heap.size 0 cs) w.heap.size 0 106 cs _ HRs.out Try.underlying106 rfl hin)
  clear hin hcs hX2 hg2 hb2 HB2 HX HSrc HG
  go_wp2_with (first
    | (with_reducible refine wpList_load_mid rfl 106 (.tmp 3) rfl (w.heap.size + 1) 0 rfl cs _ HRg.out Try.underlying106 rfl HIn.out ?_)
    | (with_reducible refine wpList_store_mid rfl 106 (.tmp 2) (.tmp 7) rfl w.heap.size 0 cs.toArray rfl rfl (by simpa [HN.out] using HTh.out) (by simpa using HIn.out) (all_oneCell_toArray HOn.out) ?_))
  refine bodyPost_ret (v := .agg cs.toArray) (results_cell Try.results84 (by rfl) HLd.out) rfl ?_
  exact ⟨by rw [HCs.out], below_setCellsL hbz (Nat.le_refl _) 0 cs⟩
end Go.Proofs.Ytlfmniekbiffjaa

/- For the model's l02Plan. Written by gen_specplan.py. -/
namespace Go.Proofs.Ytlfmniekbiffjaa
open Go.RowKit

theorem wp_app_freshP {P : Program} {o : Oper} {a : Act} {w : World} {K : Act → World → Prop} {Q : Exit → Act → World → Prop}
    (s x : Operand) (t : TypeId) (hop : o.op = Op.call { callee := Callee.builtin Builtin.append, args := #[s, x], argTypes := #[t, t] })
    (e : TypeId) (z : Value) (size bytes : Nat) (ht : P.underlying t = some (.slice e)) (hi : ∃ i : TypeInfo, P.info? e = some i ∧ i.zero = some z ∧ i.size = size ∧ i.bytes = bytes) (hzs : z.cells.size = size) (hsz : 0 < size) (b : Addr) (hs : a.eval s = .slice (some b) 0 0)
    (A : Option Addr) (m c : Nat) (hm : 0 < m) (news : List Value) (hx : a.eval x = .slice A m c) (hl : news.length = m * size) (hsrc : ∃ ad, A = some ad ∧ ∀ j u, news[j]? = some u → w.cell? (ad.add j) = some u)
    (h63 : m ≤ maxLen) (hbytes : m * bytes ≤ 140737488355328)
    (h : ∀ A' cap w', Below w.heap.size w w' → Hid (w'.ownsRow w.heap.size e size (.slice A' m cap) m news) → K (a.put o.dst (.slice A' m cap)) w') : Oper.wp P o a w K Q := by
  obtain ⟨i, hi, hz, hsize, hby⟩ := hi
  obtain ⟨A', cap, w', hr, h2, h3⟩ := run_app_fresh (P := P) w t o.type e i z size bytes ht hi hz hsize hby hzs hsz b A m c hm news hl hsrc h63 hbytes
  unfold Oper.wp execOp
  simp only [hop, resolve, invoke, builtin, Sem.run_bind, Sem.run_pure, Result.andThen_ok, List.map_toArray, List.map_cons, List.map_nil, hs, hx, hr]
  exact h A' cap w' h2 (Lib.hid h3)
theorem setCell_selfP {w : World} {p : Addr} {u v : Value} (h : w.cell? p = some u) : ∃ x, (w.setCell p v).cell? p = some x := by
  exact ⟨_, World.cell?_setCell_same' w p v (by rw [h]; rfl)⟩
theorem frozen_setCellP (w : World) (p q : Addr) (v : Value) : (w.setCell p v).frozen? q = w.frozen? q := by simp
def YW2 (b : Nat) (W : World) (j : Nat) : Value := (W.cell? ⟨b, j, none⟩).getD undef
theorem YW2.of {b : Nat} {W : World} {t : TypeId} {cs : Array Value} (h : Box W b t cs) (hs : cs.size = 2) (j : Nat) (hj : j < 2) : W.cell? ⟨b, j, none⟩ = some (YW2 b W j) := by
  have := h.cell j (Array.getElem?_eq_getElem (by omega : j < cs.size))
  unfold YW2; rw [this]; rfl
theorem Box.allW2 {w : World} {b : Nat} {t : TypeId} {cs : Array Value} (X : Box w b t cs) (hs : cs.size = 2) (u0 u1 : Value) :
    Box ((w.setCell ⟨b, 0, none⟩ u0).setCell ⟨b, 1, none⟩ u1) b t #[u0, u1] := by
  have := (X.set 0 u0).set 1 u1
  rw [show (cs.setIfInBounds 0 u0).setIfInBounds 1 u1 = #[u0, u1] from by
    match cs, hs with
    | ⟨[a, b]⟩, _ => rfl] at this
  exact this
theorem Box.setAny {w : World} {b b' : Nat} {t : TypeId} {cs : Array Value} (X : Box w b t cs) (i : Nat) (u : Value) : ∃ cs' : Array Value, cs'.size = cs.size ∧ Box (w.setCell ⟨b', i, none⟩ u) b t cs' := by
  by_cases h : b = b'
  · subst h
    exact ⟨_, by simp, X.set i u⟩
  · exact ⟨cs, rfl, X.far (p := ⟨b', i, none⟩) h u⟩
theorem rowv_setRow {w : World} {base n b m : Nat} {t e : TypeId} {f : Nat → Value} {size : Nat} {v : Value} {xs : List Value} (h : w.ownsRow base e size v n xs) (hr : w.rowIs b t m f) (ht : t ≠ e) (i : Nat) (u : Value) : (w.setCell ⟨b, i, none⟩ u).ownsRow base e size v n xs := by
  obtain ⟨cs, hc, _, _⟩ := hr
  exact rowv_setBox h (show Box w b t cs from hc) ht i u
theorem OwnI.grown {w w' : World} {lo hi base n : Nat} {A : Option Addr} {zs : List Int} {e : TypeId} {size : Nat} {v : Value} {xs : List Value} (h : OwnI w lo hi A zs) (hr : w.ownsRow base e size v n xs) (ht : 3 ≠ e) (hg : w.grownBy w' v.ownBlock) : OwnI w' lo hi A zs := by
  rcases h with q | ⟨b, m, f, q, h1, h2, hm, ⟨cs, hc, hs, hi'⟩, hf⟩
  · exact .inl q
  · exact .inr ⟨b, m, f, q, h1, h2, hm, ⟨cs, Box.grown (cs := cs) hc hr ht hg, hs, hi'⟩, hf⟩
/-- The plan in the making. -/
structure PSt (w : World) (A C T : Option Addr) (n c d tc : Nat) (g : Int) (D : Nat) (G : Option Addr) (gc Wh : Nat) (tb : List Int) (W : World) : Prop where
  bel : Below w.heap.size w W
  x : Box W w.heap.size 30 #[.slice A n c, .slice C 0 d]
  r : Box W (w.heap.size + 1) 49 #[.int .i64 g, .slice T 17 tc]
  y : Box W (w.heap.size + 1 + 1) 49 #[.int .i64 0, .slice none 0 0]
  z : Box W D 49 #[.int .i64 (g + 1), .slice G 17 gc]
  tab : OwnI W w.heap.size Wh G tb
  hd : w.heap.size + 3 ≤ D
  hw : Wh ≤ W.heap.size
  tl : tb.length = 17
section
variable {w : World} {A C T : Option Addr} {n c d tc : Nat} {g : Int} {D : Nat} {G : Option Addr} {gc Wh : Nat} {tb : List Int} {W W' : World}
theorem PSt.step (h : PSt w A C T n c d tc g D G gc Wh tb W) (k : Below W.heap.size W W') : PSt w A C T n c d tc g D G gc Wh tb W' :=
  ⟨bt h.bel k, h.x.step k, h.r.step k, h.y.step k, h.z.step k, h.tab.below k, h.hd, Nat.le_trans h.hw k.size, h.tl⟩
theorem PSt.set {gb m j : Nat} {f : Nat → Value} (h : PSt w A C T n c d tc g D (some ⟨gb, 0, none⟩) gc Wh tb W) (hr : W.rowIs gb 3 m f) (hput : ∀ x, OwnI (W.setCell ⟨gb, j, none⟩ (.int .i64 x)) w.heap.size Wh (some ⟨gb, 0, none⟩) (tb.set j x)) (hg : w.heap.size ≤ gb) (v : Int) : PSt w A C T n c d tc g D (some ⟨gb, 0, none⟩) gc Wh (tb.set j v) (W.setCell ⟨gb, j, none⟩ (.int .i64 v)) :=
  ⟨h.bel.setCell (p := ⟨gb, j, none⟩) hg _, h.x.far (p := ⟨gb, j, none⟩) (by exact h.x.ne hr (by decide)) _, h.r.far (p := ⟨gb, j, none⟩) (by exact h.r.ne hr (by decide)) _, h.y.far (p := ⟨gb, j, none⟩) (by exact h.y.ne hr (by decide)) _, h.z.far (p := ⟨gb, j, none⟩) (by exact h.z.ne hr (by decide)) _, hput v, h.hd, by simpa [World.setCell] using h.hw, by rw [List.length_set]; exact h.tl⟩
theorem PSt.grown {base k : Nat} {v : Value} {xs : List Value} (h : PSt w A C T n c d tc g D G gc Wh tb W) (hr : W.ownsRow base 87 2 v k xs) (hg : W.grownBy W' v.ownBlock) (hb : Below w.heap.size W W') : PSt w A C T n c d tc g D G gc Wh tb W' :=
  ⟨h.bel.trans hb, h.x.grown hr (by decide) hg, h.r.grown hr (by decide) hg, h.y.grown hr (by decide) hg, h.z.grown hr (by decide) hg, h.tab.grown hr (by decide) hg, h.hd, Nat.le_trans h.hw hb.size, h.tl⟩
end
def plnF (M N : Nat) (g : Int) (T : Value) (zs : List Int) : Nat → (Nat → Value) → World → Prop
  | 0, t, _ => t 12 = .pointer (some ⟨M + 1, 0, none⟩)
  | 1, t, _ => t 13 = .int .i64 g
  | 2, t, _ => t 14 = .int .i64 (g + 1)
  | 3, t, _ => ∃ b, t 15 = .slice (some b) 0 0
  | 4, t, _ => t 16 = .pointer (some ⟨M + 1, 1, none⟩)
  | 5, t, _ => t 17 = T
  | 6, t, w => ∃ A c, t 18 = .slice A 17 c ∧ OwnI w M w.heap.size A zs
  | 7, t, _ => ∃ A c, t 18 = .slice A 17 c ∧ t 19 = .agg #[.int .i64 (g + 1), .slice A 17 c]
  | 8, t, w => ∃ D ys, t 8 = .pointer (some ⟨D, 0, none⟩) ∧ Box w D 49 ys ∧ ys.size = 2 ∧ N ≤ D
  | 9, t, w => ∃ A c D, t 18 = .slice A 17 c ∧ t 8 = .pointer (some ⟨D, 0, none⟩) ∧ Box w D 49 #[.int .i64 (g + 1), .slice A 17 c] ∧ N ≤ D
  | _, _, _ => True
section
variable {M N : Nat} {g : Int} {T : Value} {zs : List Int} {w w' : World}
theorem plnF_below (k : Below w.heap.size w w') : ∀ (j : Nat) (t : Nat → Value), plnF M N g T zs j t w → plnF M N g T zs j t w'
  | 0, _, h | 1, _, h | 2, _, h | 3, _, h | 4, _, h | 5, _, h | 7, _, h => h
  | 6, _, ⟨A, c, e, h⟩ => ⟨A, c, e, (h.below k).wide (Nat.le_refl _) k.size⟩
  | 8, _, ⟨D, ys, e, h, q, q2⟩ => ⟨D, ys, e, h.step k, q, q2⟩
  | 9, _, ⟨A, c, D, e, e2, h, q⟩ => ⟨A, c, D, e, e2, h.step k, q⟩
  | _ + 10, _, _ => trivial
theorem plnF_store {D : Nat} {ys : Array Value} (Y : Box w D 49 ys) (i : Nat) (u : Value) : ∀ (j : Nat) (t : Nat → Value), j ≠ 9 → plnF M N g T zs j t w → plnF M N g T zs j t (w.setCell ⟨D, i, none⟩ u)
  | 0, _, _, h | 1, _, _, h | 2, _, _, h | 3, _, _, h | 4, _, _, h | 5, _, _, h | 7, _, _, h => h
  | 6, _, _, ⟨A, c, e, h⟩ => ⟨A, c, e, (h.far Y (by decide) i u).wide (Nat.le_refl _) (by simp [World.setCell])⟩
  | 8, _, _, ⟨D', ys', e, h, q, q2⟩ => by
    obtain ⟨cs, hs, hb⟩ := h.setAny (b' := D) i u
    exact ⟨D', cs, e, hb, hs.trans q, q2⟩
  | 9, _, n, _ => (n rfl).elim
  | _ + 10, _, _, _ => trivial
end
theorem arr63 (T : Array Value) (h : T.size = 63) : ∃ t0 t1 t2 t3 t4 t5 t6 t7 t8 t9 t10 t11 t12 t13 t14 t15 t16 t17 t18 t19 t20 t21 t22 t23 t24 t25 t26 t27 t28 t29 t30 t31 t32 t33 t34 t35 t36 t37 t38 t39 t40 t41 t42 t43 t44 t45 t46 t47 t48 t49 t50 t51 t52 t53 t54 t55 t56 t57 t58 t59 t60 t61 t62 : Value, T = #[t0, t1, t2, t3, t4, t5, t6, t7, t8, t9, t10, t11, t12, t13, t14, t15, t16, t17, t18, t19, t20, t21, t22, t23, t24, t25, t26, t27, t28, t29, t30, t31, t32, t33, t34, t35, t36, t37, t38, t39, t40, t41, t42, t43, t44, t45, t46, t47, t48, t49, t50, t51, t52, t53, t54, t55, t56, t57, t58, t59, t60, t61, t62] := by
  obtain ⟨l⟩ := T
  match l, h with
  | t0 :: t1 :: t2 :: t3 :: t4 :: t5 :: t6 :: t7 :: t8 :: t9 :: t10 :: t11 :: t12 :: t13 :: t14 :: t15 :: t16 :: t17 :: t18 :: t19 :: t20 :: t21 :: t22 :: t23 :: t24 :: t25 :: t26 :: t27 :: t28 :: t29 :: t30 :: t31 :: t32 :: t33 :: t34 :: t35 :: t36 :: t37 :: t38 :: t39 :: t40 :: t41 :: t42 :: t43 :: t44 :: t45 :: t46 :: t47 :: t48 :: t49 :: t50 :: t51 :: t52 :: t53 :: t54 :: t55 :: t56 :: t57 :: t58 :: t59 :: t60 :: t61 :: t62 :: [], _ => exact ⟨t0, t1, t2, t3, t4, t5, t6, t7, t8, t9, t10, t11, t12, t13, t14, t15, t16, t17, t18, t19, t20, t21, t22, t23, t24, t25, t26, t27, t28, t29, t30, t31, t32, t33, t34, t35, t36, t37, t38, t39, t40, t41, t42, t43, t44, t45, t46, t47, t48, t49, t50, t51, t52, t53, t54, t55, t56, t57, t58, t59, t60, t61, t62, rfl⟩

theorem own_at {w : World} {lo hi fb k : Nat} {fr : List Int} (h : OwnI w lo hi (some ⟨fb, 0, none⟩) fr) (hk : k < fr.length) : w.cell? ⟨fb, k, none⟩ = some (.int .i64 (fr.getD k 0)) := by
  obtain ⟨b, m, f, e, hc, _⟩ := h.put k hk
  injection e with e
  injection e with e
  subst e
  exact hc
theorem plan_held {w w5 w6 : World} {B : Option Addr} {k f fb pb po mid hi : Nat} {fr : List Int} {v : Int} {t : ByteArray} {xs : List Value} (k6 : Below w5.heap.size w5 w6) (O7 : OwnI w6 mid hi (some ⟨fb, 0, none⟩) fr) (HOw : w6.ownsRow w.heap.size 87 2 (.slice B k f) k xs) (hk : k < fr.length) (hv : fr.getD k 0 = v) (hpl : pb < w.heap.size)
    (hfc : w5.cell? ⟨fb, k, none⟩ = some (.int .i64 v)) (hpc : w5.cell? ⟨pb, po, none⟩ = some (.string t)) :
    ∀ W', (W' = w5.drew ∨ W' = w6 ∨ (w6.grownBy W' (Value.slice B k f).ownBlock ∧ Below w.heap.size w6 W')) → W'.cell? ⟨fb, k, none⟩ = some (.int .i64 v) ∧ W'.cell? ⟨pb, po, none⟩ = some (.string t) := by
  intro W' h
  rcases h with h | h | ⟨q1, q2⟩
  · rw [h]; exact ⟨hfc, hpc⟩
  · rw [h]; exact ⟨(k6.cell (p := ⟨fb, k, none⟩) (cell_lt hfc)).trans hfc, (k6.cell (p := ⟨pb, po, none⟩) (cell_lt hpc)).trans hpc⟩
  · refine ⟨?_, (q2.cell (p := ⟨pb, po, none⟩) hpl).trans ((k6.cell (p := ⟨pb, po, none⟩) (cell_lt hpc)).trans hpc)⟩
    rw [← hv]
    exact own_at (O7.grown HOw (by decide) q1) hk
/-- What l02Plan hands back: the next root and the writes of its pages. -/
def GivesNext (g : Int) (tb : List Int) (wl : List (Int × ByteArray)) (w : World) (e : Ending) (w' : World) : Prop :=
  ∃ G gc B k f, e = .returned (.tuple #[.agg #[.int .i64 (g + 1), .slice G 17 gc], .slice B k f]) ∧ Hid (wl.length = k) ∧ Hid (k ≤ f) ∧ Hid (k = 0 ∨ ∃ b, B = some ⟨b, 0, none⟩) ∧ Hid (IntL w' G tb) ∧ Hid (WrL w' B wl) ∧ Below w.heap.size w w'

end Go.Proofs.Ytlfmniekbiffjaa

/- The model's l02Plan. Written by gen_specplan.py. -/
namespace Go.Proofs.Ytlfmniekbiffjaa
open Go.RowKit

set_option maxRecDepth 100000 in
set_option maxHeartbeats 16000000 in
theorem l02Plan (A C T Pg : Option Addr) (n c d tc cp : Nat) (ss ps : List ByteArray) (g : Int) (zs : List Int) (w : World) (hl : ss.length = n) (h48 : n = 48) (hp : ps.length = 17) (hz : zs.length = 17) (hzs : ∀ z ∈ zs, 2 ≤ z ∧ z ≤ 47) (hg : 0 ≤ g ∧ g ≤ 999999) (h : StrL w A ss) (i : StrL w Pg ps) (j : IntL w T zs) :
    Calls Try.prog 76 #[.agg #[.slice A n c, .slice C 0 d], .agg #[.int .i64 g, .slice T 17 tc], .slice Pg 17 cp] w (GivesNext g (planN zs (freeL zs) (loadL ss [] zs) ps 17).1 (planN zs (freeL zs) (loadL ss [] zs) ps 17).2 w) := by
  obtain ⟨W0, hW0⟩ : ∃ W0, W0 = (((w.alloc (.cells #[.slice A n c, .slice C 0 d] 30)).alloc (.cells #[.int .i64 g, .slice T 17 tc] 49)).alloc (.cells #[.int .i64 0, .slice none 0 0] 49)) := ⟨_, rfl⟩
  have hb0 : Hid (Below w.heap.size w W0) := Lib.hid (by rw [hW0]; exact bt (bt (alloc_below _ _) (alloc_below _ _)) (alloc_below _ _))
  have X0 : Hid (Box W0 w.heap.size 30 #[.slice A n c, .slice C 0 d]) := Lib.hid (by rw [hW0]; exact ((Box.new _ _ _).alloc _).alloc _)
  have R1 : Hid (Box W0 (w.heap.size + 1) 49 #[.int .i64 g, .slice T 17 tc]) := Lib.hid (by rw [hW0]; have := (Box.new (w.alloc (.cells #[.slice A n c, .slice C 0 d] 30)) 49 #[.int .i64 g, .slice T 17 tc]).alloc (.cells #[.int .i64 0, .slice none 0 0] 49); rw [World.size_alloc] at this; exact this)
  have Y1 : Hid (Box W0 (w.heap.size + 1 + 1) 49 #[.int .i64 0, .slice none 0 0]) := Lib.hid (by rw [hW0]; have := Box.new ((w.alloc (.cells #[.slice A n c, .slice C 0 d] 30)).alloc (.cells #[.int .i64 g, .slice T 17 tc] 49)) 49 #[.int .i64 0, .slice none 0 0]; rw [World.size_alloc, World.size_alloc] at this; exact this)
  have HZ0 : Hid (W0.heap.size = w.heap.size + 3) := Lib.hid (by rw [hW0]; simp)
  have HI := Lib.hid (fun W (hb : Below w.heap.size w W) => j.below hb)
  have HPg := Lib.hid (fun W (hb : Below w.heap.size w W) => i.below hb)
  have HPb : Hid (∀ ad : Addr, Pg = some ad → ∀ k, k < 17 → ad.block < w.heap.size) := Lib.hid (fun ad e k hk => by
    obtain ⟨b, off, e2, hc⟩ := i k (by omega)
    rw [e] at e2
    injection e2 with e2
    subst e2
    have := cell_lt hc
    exact this)
  have HA := Lib.hid h
  have HL := Lib.hid (And.intro hz (And.intro hp hl))
  have HZs := Lib.hid hzs
  have Hn48 := Lib.hid h48
  have HS0 := Lib.hid (fun W (r : Below W0.heap.size W0 W) => (j.below (bt hb0.out r)).src (by omega))
  have HN : Hid ((cellsI zs).length = 17 * 1) := Lib.hid (by rw [cellsI_len]; omega)
  have HK : Hid (∀ W', Below W0.heap.size W0 W' → W'.cell? ⟨w.heap.size + 1, 0, none⟩ = some (.int .i64 g) ∧ W'.cell? ⟨w.heap.size + 1, 1, none⟩ = some (.slice T 17 tc)) := Lib.hid (fun W' r => ⟨(R1.out.step r).cell 0 rfl, (R1.out.step r).cell 1 rfl⟩)
  obtain ⟨ld, hld⟩ : ∃ ld, ld = loadL ss [] zs := ⟨_, rfl⟩
  have HLe := Lib.hid hld
  rw [← hld]
  have HEg : Hid (IntKind.i64.wrap (g + 1) = g + 1) := Lib.hid (IntWalk.i64_in _ (by omega))
  have HW0 := Lib.hid hW0
  have R0 : Below W0.heap.size W0 W0.drew := (Below.refl _ _).drew
  clear hl h48 hp hz hzs h i j hW0 hld
  go_enter Try.func76, Try.ntmps76
  go_wp2
  rw [← HW0.out]
  refine wp_region_facts (by kernel_rfl) [[12], [13], [14], [15], [16], [17], [18], [18, 19], [8], [18, 8]] [[], [0], [0, 1], [], [], [4], [3, 4, 5], [0, 1, 2, 3, 4, 5, 6], [], [0, 1, 2, 3, 4, 5, 6, 7, 8]] [0, 1, 2, 3, 4, 6, 7] (by kernel_rfl) (Below W0.heap.size W0) (plnF w.heap.size W0.heap.size g (.slice T 17 tc) zs) R0 ?_ ?_
  · refine ⟨?_, ?_, ?_, ?_, ?_, ?_, ?_, ?_, ?_, ?_, trivial⟩
    · intro T W hT hs hC hF K hK
      obtain ⟨t0, t1, t2, t3, t4, t5, t6, t7, t8, t9, t10, t11, t12, t13, t14, t15, t16, t17, t18, t19, t20, t21, t22, t23, t24, t25, t26, t27, t28, t29, t30, t31, t32, t33, t34, t35, t36, t37, t38, t39, t40, t41, t42, t43, t44, t45, t46, t47, t48, t49, t50, t51, t52, t53, t54, t55, t56, t57, t58, t59, t60, t61, t62, rfl⟩ := arr63 T hT
      obtain rfl : t0 = .agg #[.slice A n c, .slice C 0 d] := hs 0 (by decide)
      obtain rfl : t1 = .agg #[.int .i64 g, .slice T 17 tc] := hs 1 (by decide)
      obtain rfl : t2 = .slice Pg 17 cp := hs 2 (by decide)
      obtain rfl : t3 = .pointer (some ⟨w.heap.size, 0, none⟩) := hs 3 (by decide)
      obtain rfl : t4 = .pointer (some ⟨w.heap.size + 1, 0, none⟩) := hs 4 (by decide)
      obtain rfl : t6 = .pointer (some ⟨w.heap.size + 1 + 1, 0, none⟩) := hs 6 (by decide)
      obtain rfl : t7 = .slice none 0 0 := hs 7 (by decide)
      clear hF hs hT
      go_simp
      exact hK.out _ W hC (fun _ _ _ h => h) rfl
    · intro T W hT hs hC hF K hK
      obtain ⟨t0, t1, t2, t3, t4, t5, t6, t7, t8, t9, t10, t11, t12, t13, t14, t15, t16, t17, t18, t19, t20, t21, t22, t23, t24, t25, t26, t27, t28, t29, t30, t31, t32, t33, t34, t35, t36, t37, t38, t39, t40, t41, t42, t43, t44, t45, t46, t47, t48, t49, t50, t51, t52, t53, t54, t55, t56, t57, t58, t59, t60, t61, t62, rfl⟩ := arr63 T hT
      obtain rfl : t0 = .agg #[.slice A n c, .slice C 0 d] := hs 0 (by decide)
      obtain rfl : t1 = .agg #[.int .i64 g, .slice T 17 tc] := hs 1 (by decide)
      obtain rfl : t2 = .slice Pg 17 cp := hs 2 (by decide)
      obtain rfl : t3 = .pointer (some ⟨w.heap.size, 0, none⟩) := hs 3 (by decide)
      obtain rfl : t4 = .pointer (some ⟨w.heap.size + 1, 0, none⟩) := hs 4 (by decide)
      obtain rfl : t6 = .pointer (some ⟨w.heap.size + 1 + 1, 0, none⟩) := hs 6 (by decide)
      obtain rfl : t7 = .slice none 0 0 := hs 7 (by decide)
      have f0 := hF 0 (by decide)
      simp only [plnF, mask] at f0
      clear hF hs hT
      subst f0
      have k := (HK.out W hC).1
      go_simp
      exact hK.out _ W hC (fun _ _ _ h => h) rfl
    · intro T W hT hs hC hF K hK
      obtain ⟨t0, t1, t2, t3, t4, t5, t6, t7, t8, t9, t10, t11, t12, t13, t14, t15, t16, t17, t18, t19, t20, t21, t22, t23, t24, t25, t26, t27, t28, t29, t30, t31, t32, t33, t34, t35, t36, t37, t38, t39, t40, t41, t42, t43, t44, t45, t46, t47, t48, t49, t50, t51, t52, t53, t54, t55, t56, t57, t58, t59, t60, t61, t62, rfl⟩ := arr63 T hT
      obtain rfl : t0 = .agg #[.slice A n c, .slice C 0 d] := hs 0 (by decide)
      obtain rfl : t1 = .agg #[.int .i64 g, .slice T 17 tc] := hs 1 (by decide)
      obtain rfl : t2 = .slice Pg 17 cp := hs 2 (by decide)
      obtain rfl : t3 = .pointer (some ⟨w.heap.size, 0, none⟩) := hs 3 (by decide)
      obtain rfl : t4 = .pointer (some ⟨w.heap.size + 1, 0, none⟩) := hs 4 (by decide)
      obtain rfl : t6 = .pointer (some ⟨w.heap.size + 1 + 1, 0, none⟩) := hs 6 (by decide)
      obtain rfl : t7 = .slice none 0 0 := hs 7 (by decide)
      have f1 := hF 1 (by decide)
      simp only [plnF, mask] at f1
      clear hF hs hT
      subst f1
      have eg := HEg.out
      go_simp
      exact hK.out _ W hC (fun _ _ _ h => h) rfl
    · intro T W hT hs hC hF K hK
      obtain ⟨t0, t1, t2, t3, t4, t5, t6, t7, t8, t9, t10, t11, t12, t13, t14, t15, t16, t17, t18, t19, t20, t21, t22, t23, t24, t25, t26, t27, t28, t29, t30, t31, t32, t33, t34, t35, t36, t37, t38, t39, t40, t41, t42, t43, t44, t45, t46, t47, t48, t49, t50, t51, t52, t53, t54, t55, t56, t57, t58, t59, t60, t61, t62, rfl⟩ := arr63 T hT
      obtain rfl : t0 = .agg #[.slice A n c, .slice C 0 d] := hs 0 (by decide)
      obtain rfl : t1 = .agg #[.int .i64 g, .slice T 17 tc] := hs 1 (by decide)
      obtain rfl : t2 = .slice Pg 17 cp := hs 2 (by decide)
      obtain rfl : t3 = .pointer (some ⟨w.heap.size, 0, none⟩) := hs 3 (by decide)
      obtain rfl : t4 = .pointer (some ⟨w.heap.size + 1, 0, none⟩) := hs 4 (by decide)
      obtain rfl : t6 = .pointer (some ⟨w.heap.size + 1 + 1, 0, none⟩) := hs 6 (by decide)
      obtain rfl : t7 = .slice none 0 0 := hs 7 (by decide)
      clear hF hs hT
      have k := alloc_below W (.cells #[] 3)
      go_simp
      exact hK.out _ _ (hC.trans (k.mono hC.size)) (fun j t _ h => plnF_below k j t h) ⟨_, rfl⟩
    · intro T W hT hs hC hF K hK
      obtain ⟨t0, t1, t2, t3, t4, t5, t6, t7, t8, t9, t10, t11, t12, t13, t14, t15, t16, t17, t18, t19, t20, t21, t22, t23, t24, t25, t26, t27, t28, t29, t30, t31, t32, t33, t34, t35, t36, t37, t38, t39, t40, t41, t42, t43, t44, t45, t46, t47, t48, t49, t50, t51, t52, t53, t54, t55, t56, t57, t58, t59, t60, t61, t62, rfl⟩ := arr63 T hT
      obtain rfl : t0 = .agg #[.slice A n c, .slice C 0 d] := hs 0 (by decide)
      obtain rfl : t1 = .agg #[.int .i64 g, .slice T 17 tc] := hs 1 (by decide)
      obtain rfl : t2 = .slice Pg 17 cp := hs 2 (by decide)
      obtain rfl : t3 = .pointer (some ⟨w.heap.size, 0, none⟩) := hs 3 (by decide)
      obtain rfl : t4 = .pointer (some ⟨w.heap.size + 1, 0, none⟩) := hs 4 (by decide)
      obtain rfl : t6 = .pointer (some ⟨w.heap.size + 1 + 1, 0, none⟩) := hs 6 (by decide)
      obtain rfl : t7 = .slice none 0 0 := hs 7 (by decide)
      clear hF hs hT
      go_simp
      exact hK.out _ W hC (fun _ _ _ h => h) rfl
    · intro T W hT hs hC hF K hK
      obtain ⟨t0, t1, t2, t3, t4, t5, t6, t7, t8, t9, t10, t11, t12, t13, t14, t15, t16, t17, t18, t19, t20, t21, t22, t23, t24, t25, t26, t27, t28, t29, t30, t31, t32, t33, t34, t35, t36, t37, t38, t39, t40, t41, t42, t43, t44, t45, t46, t47, t48, t49, t50, t51, t52, t53, t54, t55, t56, t57, t58, t59, t60, t61, t62, rfl⟩ := arr63 T hT
      obtain rfl : t0 = .agg #[.slice A n c, .slice C 0 d] := hs 0 (by decide)
      obtain rfl : t1 = .agg #[.int .i64 g, .slice T 17 tc] := hs 1 (by decide)
      obtain rfl : t2 = .slice Pg 17 cp := hs 2 (by decide)
      obtain rfl : t3 = .pointer (some ⟨w.heap.size, 0, none⟩) := hs 3 (by decide)
      obtain rfl : t4 = .pointer (some ⟨w.heap.size + 1, 0, none⟩) := hs 4 (by decide)
      obtain rfl : t6 = .pointer (some ⟨w.heap.size + 1 + 1, 0, none⟩) := hs 6 (by decide)
      obtain rfl : t7 = .slice none 0 0 := hs 7 (by decide)
      have f4 := hF 4 (by decide)
      simp only [plnF, mask] at f4
      clear hF hs hT
      subst f4
      have k := (HK.out W hC).2
      go_simp
      exact hK.out _ W hC (fun _ _ _ h => h) rfl
    · intro T W hT hs hC hF K hK
      obtain ⟨t0, t1, t2, t3, t4, t5, t6, t7, t8, t9, t10, t11, t12, t13, t14, t15, t16, t17, t18, t19, t20, t21, t22, t23, t24, t25, t26, t27, t28, t29, t30, t31, t32, t33, t34, t35, t36, t37, t38, t39, t40, t41, t42, t43, t44, t45, t46, t47, t48, t49, t50, t51, t52, t53, t54, t55, t56, t57, t58, t59, t60, t61, t62, rfl⟩ := arr63 T hT
      obtain rfl : t0 = .agg #[.slice A n c, .slice C 0 d] := hs 0 (by decide)
      obtain rfl : t1 = .agg #[.int .i64 g, .slice T 17 tc] := hs 1 (by decide)
      obtain rfl : t2 = .slice Pg 17 cp := hs 2 (by decide)
      obtain rfl : t3 = .pointer (some ⟨w.heap.size, 0, none⟩) := hs 3 (by decide)
      obtain rfl : t4 = .pointer (some ⟨w.heap.size + 1, 0, none⟩) := hs 4 (by decide)
      obtain rfl : t6 = .pointer (some ⟨w.heap.size + 1 + 1, 0, none⟩) := hs 6 (by decide)
      obtain rfl : t7 = .slice none 0 0 := hs 7 (by decide)
      have f3 := hF 3 (by decide)
      simp only [plnF, mask] at f3
      have f5 := hF 5 (by decide)
      simp only [plnF, mask] at f5
      clear hF hs hT
      obtain ⟨b, e3⟩ := f3
      subst e3 f5
      refine wp_app_freshP (.tmp 15) (.tmp 17) 39 rfl 3 (.int .i64 0) 1 8 Try.underlying39 infoIx rfl (by decide) b rfl T 17 tc (by omega) (cellsI zs) rfl HN.out (HS0.out _ hC) (by unfold maxLen; omega) (by omega) ?_
      intro A' c' w1 k O
      exact hK.out _ w1 (hC.trans (k.mono hC.size)) (fun j t _ h => plnF_below k j t h) ⟨A', c', rfl, ownI_fresh O.out (by omega) (bt hb0.out hC).size⟩
    · intro T W hT hs hC hF K hK
      obtain ⟨t0, t1, t2, t3, t4, t5, t6, t7, t8, t9, t10, t11, t12, t13, t14, t15, t16, t17, t18, t19, t20, t21, t22, t23, t24, t25, t26, t27, t28, t29, t30, t31, t32, t33, t34, t35, t36, t37, t38, t39, t40, t41, t42, t43, t44, t45, t46, t47, t48, t49, t50, t51, t52, t53, t54, t55, t56, t57, t58, t59, t60, t61, t62, rfl⟩ := arr63 T hT
      obtain rfl : t0 = .agg #[.slice A n c, .slice C 0 d] := hs 0 (by decide)
      obtain rfl : t1 = .agg #[.int .i64 g, .slice T 17 tc] := hs 1 (by decide)
      obtain rfl : t2 = .slice Pg 17 cp := hs 2 (by decide)
      obtain rfl : t3 = .pointer (some ⟨w.heap.size, 0, none⟩) := hs 3 (by decide)
      obtain rfl : t4 = .pointer (some ⟨w.heap.size + 1, 0, none⟩) := hs 4 (by decide)
      obtain rfl : t6 = .pointer (some ⟨w.heap.size + 1 + 1, 0, none⟩) := hs 6 (by decide)
      obtain rfl : t7 = .slice none 0 0 := hs 7 (by decide)
      have f2 := hF 2 (by decide)
      simp only [plnF, mask] at f2
      have f6 := hF 6 (by decide)
      simp only [plnF, mask] at f6
      clear hF hs hT
      obtain ⟨A', c', e18, O⟩ := f6
      subst e18 f2
      clear O
      go_simp
      exact hK.out _ W hC (fun _ _ _ h => h) ⟨A', c', rfl, rfl⟩
    · intro T W hT hs hC hF K hK
      obtain ⟨t0, t1, t2, t3, t4, t5, t6, t7, t8, t9, t10, t11, t12, t13, t14, t15, t16, t17, t18, t19, t20, t21, t22, t23, t24, t25, t26, t27, t28, t29, t30, t31, t32, t33, t34, t35, t36, t37, t38, t39, t40, t41, t42, t43, t44, t45, t46, t47, t48, t49, t50, t51, t52, t53, t54, t55, t56, t57, t58, t59, t60, t61, t62, rfl⟩ := arr63 T hT
      obtain rfl : t0 = .agg #[.slice A n c, .slice C 0 d] := hs 0 (by decide)
      obtain rfl : t1 = .agg #[.int .i64 g, .slice T 17 tc] := hs 1 (by decide)
      obtain rfl : t2 = .slice Pg 17 cp := hs 2 (by decide)
      obtain rfl : t3 = .pointer (some ⟨w.heap.size, 0, none⟩) := hs 3 (by decide)
      obtain rfl : t4 = .pointer (some ⟨w.heap.size + 1, 0, none⟩) := hs 4 (by decide)
      obtain rfl : t6 = .pointer (some ⟨w.heap.size + 1 + 1, 0, none⟩) := hs 6 (by decide)
      obtain rfl : t7 = .slice none 0 0 := hs 7 (by decide)
      clear hF hs hT
      have k := alloc_below W (.cells #[.int .i64 0, .slice none 0 0] 49)
      go_simp
      exact hK.out _ _ (hC.trans (k.mono hC.size)) (fun j t _ h => plnF_below k j t h) ⟨W.heap.size, _, rfl, Box.new _ _ _, rfl, hC.size⟩
    · intro T W hT hs hC hF K hK
      obtain ⟨t0, t1, t2, t3, t4, t5, t6, t7, t8, t9, t10, t11, t12, t13, t14, t15, t16, t17, t18, t19, t20, t21, t22, t23, t24, t25, t26, t27, t28, t29, t30, t31, t32, t33, t34, t35, t36, t37, t38, t39, t40, t41, t42, t43, t44, t45, t46, t47, t48, t49, t50, t51, t52, t53, t54, t55, t56, t57, t58, t59, t60, t61, t62, rfl⟩ := arr63 T hT
      obtain rfl : t0 = .agg #[.slice A n c, .slice C 0 d] := hs 0 (by decide)
      obtain rfl : t1 = .agg #[.int .i64 g, .slice T 17 tc] := hs 1 (by decide)
      obtain rfl : t2 = .slice Pg 17 cp := hs 2 (by decide)
      obtain rfl : t3 = .pointer (some ⟨w.heap.size, 0, none⟩) := hs 3 (by decide)
      obtain rfl : t4 = .pointer (some ⟨w.heap.size + 1, 0, none⟩) := hs 4 (by decide)
      obtain rfl : t6 = .pointer (some ⟨w.heap.size + 1 + 1, 0, none⟩) := hs 6 (by decide)
      obtain rfl : t7 = .slice none 0 0 := hs 7 (by decide)
      have f7 := hF 7 (by decide)
      simp only [plnF, mask] at f7
      have f8 := hF 8 (by decide)
      simp only [plnF, mask] at f8
      clear hF hs hT
      obtain ⟨A', c', e18, e19⟩ := f7
      obtain ⟨D, ys, e8, Y, hys, hD⟩ := f8
      subst e18 e19 e8
      have y0 := YW2.of Y hys 0 (by omega)
      have y1 := YW2.of Y hys 1 (by omega)
      have z0 := Y.frozen 0
      have z1 := Y.frozen 1
      have HYs := Lib.hid (And.intro hys Y)
      clear hys Y
      go_simp
      exact hK.out undef _ ((hC.setCell (p := ⟨D, 0, none⟩) hD _).setCell (p := ⟨D, 1, none⟩) hD _) (fun j t n h => plnF_store (HYs.out.2.set 0 _) 1 _ j t n (plnF_store HYs.out.2 0 _ j t n h)) ⟨A', c', D, rfl, rfl, HYs.out.2.allW2 HYs.out.1 _ _, hD⟩
  · intro T W hT hs hC hF
    obtain ⟨t0, t1, t2, t3, t4, t5, t6, t7, t8, t9, t10, t11, t12, t13, t14, t15, t16, t17, t18, t19, t20, t21, t22, t23, t24, t25, t26, t27, t28, t29, t30, t31, t32, t33, t34, t35, t36, t37, t38, t39, t40, t41, t42, t43, t44, t45, t46, t47, t48, t49, t50, t51, t52, t53, t54, t55, t56, t57, t58, t59, t60, t61, t62, rfl⟩ := arr63 T hT
    obtain rfl : t0 = .agg #[.slice A n c, .slice C 0 d] := hs 0 (by decide)
    obtain rfl : t1 = .agg #[.int .i64 g, .slice T 17 tc] := hs 1 (by decide)
    obtain rfl : t2 = .slice Pg 17 cp := hs 2 (by decide)
    obtain rfl : t3 = .pointer (some ⟨w.heap.size, 0, none⟩) := hs 3 (by decide)
    obtain rfl : t4 = .pointer (some ⟨w.heap.size + 1, 0, none⟩) := hs 4 (by decide)
    obtain rfl : t6 = .pointer (some ⟨w.heap.size + 1 + 1, 0, none⟩) := hs 6 (by decide)
    obtain rfl : t7 = .slice none 0 0 := hs 7 (by decide)
    obtain ⟨G, gc, e18, OT⟩ := hF 6 (by decide)
    obtain ⟨D0, ys, e8, -, -, -⟩ := hF 8 (by decide)
    obtain ⟨G', gc', D, f18, f8, Y, hD⟩ := hF 9 (by decide)
    have E1 : Value.slice G 17 gc = .slice G' 17 gc' := (show t18 = _ from e18).symm.trans f18
    simp only [Value.slice.injEq, true_and] at E1
    obtain ⟨r1, r2⟩ := E1
    subst r1 r2
    obtain rfl : t8 = .pointer (some ⟨D, 0, none⟩) := f8
    have hbW := bt hb0.out hC
    have HS : Hid (PSt w A C T n c d tc g D G gc W.heap.size zs W) := Lib.hid ⟨hbW, X0.out.below hC (by have := HZ0.out; omega), R1.out.below hC (by have := HZ0.out; omega), Y1.out.below hC (by have := HZ0.out; omega), Y, OT, by have := HZ0.out; omega, Nat.le_refl _, HL.out.1⟩
    clear e18 f18 e8 OT Y hF hs hT hC R0 D0 ys HK HS0 HN
    obtain ⟨W2, hW2⟩ : ∃ W2, W2 = W.alloc (.cells #[] 87) := ⟨_, rfl⟩
    have k2 : Below W.heap.size W W2 := by rw [hW2]; exact alloc_below _ _
    have HE2 : Hid (Box W2 W.heap.size 87 #[]) := Lib.hid (by rw [hW2]; exact Box.new _ _ _)
    have S2 := Lib.hid (HS.out.step k2)
    have r0 := S2.out.r.cell 0 rfl
    have r1 := S2.out.r.cell 1 rfl
    rw [hW2] at r0 r1
    have HFr := Lib.hid (l02Free g T 17 tc zs W2 HL.out.1 (by unfold maxLen; omega) (HI.out W2 S2.out.bel))
    have HFl := Lib.hid (And.intro (freeL_len zs HL.out.1) (freeL_in zs))
    have HW2 := Lib.hid hW2
    clear hW2 hbW
    go_wp2_with fail
    rw [← HW2.out]
    refine HFr.out.mono ?_
    rintro e w3 ⟨Fr, nf, cf, rfl, L3, O3, k3⟩
    have S3 := Lib.hid (S2.out.step k3)
    have HE3 : Hid (w3.ownsRow w.heap.size 87 2 (.slice (some ⟨W.heap.size, 0, none⟩) 0 0) 0 (cellsW [])) := Lib.hid (own_emptyW HS.out.bel.size (HE2.out.step k3))
    have O3' : Hid (OwnI w3 W2.heap.size w3.heap.size Fr (freeL zs)) := O3
    have hWW : W.heap.size ≤ W2.heap.size := k2.size
    generalize hfr : freeL zs = fr at HFl L3 O3' O3
    have HFrE := Lib.hid hfr
    obtain ⟨mid, hmid⟩ : ∃ mid, mid = W2.heap.size := ⟨_, rfl⟩
    rw [← hmid] at O3' hWW
    obtain ⟨Wh, hWh⟩ : ∃ Wh, Wh = W.heap.size := ⟨_, rfl⟩
    rw [← hWh] at HE3 S3 hWW
    rw [← hWh]
    clear r0 r1 HFr O3 S2 HE2 HS k2 k3 HW2 hmid hWh hfr
    go_wp2
    go_loopw [11, 9] (fun q s wr => ∃ (j k : Nat) (B : Option Addr) (f : Nat) (tb : List Int) (wl : List (Int × ByteArray)), j ≤ 17 ∧ k ≤ j ∧ q = .int .i64 j ∧ s = .slice B k f ∧ Hid (planN zs fr ld ps j = (tb, wl)) ∧ Hid (wl.length = k) ∧ Hid (PSt w A C T n c d tc g D G gc Wh tb wr) ∧ Hid (∃ hi, OwnI wr mid hi Fr fr) ∧ Hid (wr.ownsRow w.heap.size 87 2 (.slice B k f) k (cellsW wl))) (fun q _ _ => 17 - (intOf q).toNat)
    case atStart => exact ⟨0, 0, _, 0, zs, [], by omega, by omega, rfl, rfl, Lib.hid rfl, Lib.hid rfl, S3, Lib.hid ⟨_, O3'.out⟩, HE3⟩
    case round =>
      clear S3 O3' HE3
      obtain ⟨j, k, B, f, tb, wl, hj, hkj, rfl, rfl, HPl, HWl, S, O, E⟩ := hrel
      by_cases hlt : j < 17
      · have hi : (j : Int) < 17 := by omega
        have hzj := getD_in (zs := zs) (i := j) (by rw [HL.out.1]; exact hlt) HZs.out
        obtain ⟨tb0, toff, rfl, htc⟩ := HI.out wr S.out.bel j (by rw [HL.out.1]; exact hlt)
        obtain ⟨pb, poff, rfl, hpc⟩ := HPg.out wr S.out.bel j (by rw [HL.out.2.1]; exact hlt)
        have HNx : Hid (planN zs fr ld ps (j + 1) = if ld.getD j ByteArray.empty = ps.getD j ByteArray.empty then (tb, wl) else (tb.set j (fr.getD wl.length 0), wl ++ [(fr.getD wl.length 0, ps.getD j ByteArray.empty)])) := Lib.hid (by rw [planN, HPl.out])
        obtain ⟨z, hz⟩ : ∃ z : Nat, zs.getD j 0 = z := ⟨(zs.getD j 0).toNat, by omega⟩
        have HLd : Hid (ld.getD j ByteArray.empty = readS ss [] z) := Lib.hid (by rw [HLe.out]; unfold loadL; rw [List.getD_eq_getElem?_getD, List.getElem?_map, List.getElem?_eq_getElem (by rw [HL.out.1]; exact hlt), ← hz, List.getD_eq_getElem?_getD, List.getElem?_eq_getElem (by rw [HL.out.1]; exact hlt)]; rfl)
        rw [hz] at htc
        have HRd := Lib.hid (fun W (hb : Below w.heap.size w W) => l01Read A C n c 0 d ss [] z W HL.out.2.2 rfl (by have := Hn48.out; unfold maxLen; omega) (by unfold maxLen; omega) (HA.out.below hb) (fun i hi => by simp at hi) (by have := Hn48.out; omega))
        rw [HLd.out] at HNx
        have HKk : Hid (∀ W', Below wr.heap.size wr W' → W'.cell? ⟨w.heap.size, 0, none⟩ = some (.slice A n c) ∧ W'.cell? ⟨w.heap.size, 1, none⟩ = some (.slice C 0 d) ∧ W'.cell? ⟨w.heap.size + 1, 1, none⟩ = some (.slice (some ⟨tb0, toff, none⟩) 17 tc) ∧ W'.cell? ⟨tb0, toff + j, none⟩ = some (.int .i64 (z : Int)) ∧ W'.cell? ⟨pb, poff + j, none⟩ = some (.string (ps.getD j ByteArray.empty))) := Lib.hid (fun W' hb => by
          have X := S.out.x.step hb
          have Q := S.out.r.step hb
          exact ⟨X.cell 0 rfl, X.cell 1 rfl, Q.cell 1 rfl, (hb.cell (cell_lt htc)).trans htc, (hb.cell (cell_lt hpc)).trans hpc⟩)
        have hqb := bytes_beq (readS ss [] z) (ps.getD j ByteArray.empty)
        have HRd1 := Lib.hid (HRd.out wr.drew S.out.bel.drew)
        generalize readS ss [] (z : Int) = s at HRd1 HNx hqb
        generalize hpg : ps.getD j ByteArray.empty = t at HKk HNx hqb
        have h6 : Below wr.heap.size wr wr.drew := (Below.refl _ _).drew
        clear hz hzj htc hpc HLd HRd
        by_cases hE : s = t
        · have hq1 : (s.toList == t.toList) = true := by rw [hqb]; simp [hE]
          have HN2 : Hid (planN zs fr ld ps (j + 1) = (tb, wl)) := Lib.hid (by rw [HNx.out, if_pos hE])
          clear hqb hE HNx
          go_wp2
          go_region_held3 (fun W' => W'.cell? ⟨w.heap.size, 0, none⟩ = some (.slice A n c) ∧ W'.cell? ⟨w.heap.size, 1, none⟩ = some (.slice C 0 d) ∧ W'.cell? ⟨w.heap.size + 1, 1, none⟩ = some (.slice (some ⟨tb0, toff, none⟩) 17 tc) ∧ W'.cell? ⟨tb0, toff + j, none⟩ = some (.int .i64 (z : Int)) ∧ W'.cell? ⟨pb, poff + j, none⟩ = some (.string t))
            (first | exact HKk.out _ h6 | exact HKk.out _ (bt h6 k4))
            (first | (go_at_call 102; refine HRd1.out.mono ?_; rintro e w4 ⟨rfl, k4⟩))
          all_goals (
            have kk := bt h6 k4
            go_wp2
            go_roundw
            case rel => exact ⟨j + 1, k, B, f, tb, wl, by omega, by omega, by go_num, rfl, HN2, HWl, Lib.hid (S.out.step kk), Lib.hid (by obtain ⟨hi, o⟩ := O.out; exact ⟨hi, o.below kk⟩), Lib.hid (rowv_below E.out kk)⟩
            case measure => simp [intOf]; omega)
        · have hq1 : (s.toList == t.toList) = false := by rw [hqb]; simp [hE]
          have HN2 : Hid (planN zs fr ld ps (j + 1) = (tb.set j (fr.getD wl.length 0), wl ++ [(fr.getD wl.length 0, t)])) := Lib.hid (by rw [HNx.out, if_neg hE])
          have hkf : (k : Int) < (nf : Int) := by have := L3.out; have := HFl.out.1; omega
          have Hkf : Hid (k < fr.length) := Lib.hid (by have := HFl.out.1; omega)
          have Hpl : Hid (pb < w.heap.size) := Lib.hid (HPb.out _ rfl j hlt)
          clear hqb hE HNx
          go_wp2
          go_region_held3 (fun W' => W'.cell? ⟨w.heap.size, 0, none⟩ = some (.slice A n c) ∧ W'.cell? ⟨w.heap.size, 1, none⟩ = some (.slice C 0 d) ∧ W'.cell? ⟨w.heap.size + 1, 1, none⟩ = some (.slice (some ⟨tb0, toff, none⟩) 17 tc) ∧ W'.cell? ⟨tb0, toff + j, none⟩ = some (.int .i64 (z : Int)) ∧ W'.cell? ⟨pb, poff + j, none⟩ = some (.string t))
            (first | exact HKk.out _ h6 | exact HKk.out _ (bt h6 k4))
            (first | (go_at_call 102; refine HRd1.out.mono ?_; rintro e w4 ⟨rfl, k4⟩))
          all_goals (
            have kk := bt h6 k4
            have hpc4 := (HKk.out w4 kk).2.2.2.2
            have S4 := Lib.hid (S.out.step kk)
            have E4 := Lib.hid (rowv_below E.out kk)
            obtain ⟨hi4, OF⟩ := O.out
            have OF4 := Lib.hid (OF.below kk)
            obtain ⟨fb, fm, ff, rfl, hfc, -, hfl, -, -, -⟩ := OF4.out.put k (by have := L3.out; omega)
            have hlw := HWl.out
            rw [hlw] at HN2
            generalize hv : fr.getD k 0 = v at hfc HN2
            have HV := Lib.hid hv
            clear hv
            obtain ⟨gb, gm, gf, rfl, hgc, hgz, hg1, hg2, hgr, hput⟩ := S4.out.tab.put j (by rw [S4.out.tl]; exact hlt)
            have hgl : gb < mid := by omega
            have S5 := Lib.hid (S4.out.set hgr hput hg1 v)
            have O5 := Lib.hid (show OwnI (w4.setCell ⟨gb, j, none⟩ (.int .i64 v)) mid hi4 (some ⟨fb, 0, none⟩) fr from OF4.out.btw ((Btw.refl gb (gb + 1) w4).setCell (p := ⟨gb, j, none⟩) (Nat.le_refl _) (Nat.lt_succ_self _) _) (.inr (by omega)))
            have E5 := Lib.hid (rowv_setRow E4.out hgr (by decide) j (.int .i64 v))
            generalize tb.getD j 0 = old at hgc
            have HD4 : Hid (∀ W', (W' = w4.drew ∨ W' = (w4.setCell ⟨gb, j, none⟩ (.int .i64 v)).drew) → W'.cell? ⟨D, 1, none⟩ = some (.slice (some ⟨gb, 0, none⟩) 17 gc) ∧ W'.cell? ⟨fb, k, none⟩ = some (.int .i64 v) ∧ W'.cell? ⟨gb, j, none⟩ = some (YW2 gb W' j) ∧ W'.frozen? ⟨gb, j, none⟩ = false) := Lib.hid (by
              rintro W' (rfl | rfl)
              · exact ⟨S4.out.z.cell 1 rfl, hfc, by unfold YW2; show w4.cell? _ = some ((w4.cell? _).getD undef); rw [hgc]; rfl, hgz⟩
              · refine ⟨S5.out.z.cell 1 rfl, ?_, ?_, ?_⟩
                · exact (World.cell?_setCell_far w4 ⟨gb, j, none⟩ ⟨fb, k, none⟩ _ (fun q => by have q2 : gb = fb := q; omega)).trans hfc
                · obtain ⟨u, hu⟩ := setCell_selfP (v := .int .i64 v) hgc
                  unfold YW2; show (w4.setCell _ _).cell? _ = some (((w4.setCell _ _).cell? _).getD undef); rw [hu]; rfl
                · exact (frozen_setCellP _ _ _ _).trans hgz)
            have hpc5 : (w4.setCell ⟨gb, j, none⟩ (.int .i64 v)).cell? ⟨pb, poff + j, none⟩ = some (.string t) := (World.cell?_setCell_far w4 ⟨gb, j, none⟩ ⟨pb, poff + j, none⟩ _ (fun q => by
              have q1 : pb < w.heap.size := HPb.out _ rfl j hlt
              have q2 : gb = pb := q
              omega)).trans hpc4
            have hfc5 : (w4.setCell ⟨gb, j, none⟩ (.int .i64 v)).cell? ⟨fb, k, none⟩ = some (.int .i64 v) := (World.cell?_setCell_far w4 ⟨gb, j, none⟩ ⟨fb, k, none⟩ _ (fun q => by have q2 : gb = fb := q; omega)).trans hfc
            clear S O E HKk HRd1 hfc hgc hgz hput hgr S4 OF OF4 E4 kk k4 h6 hpc4
            go_wp2
            go_region_held3 (fun W' => W'.cell? ⟨D, 1, none⟩ = some (.slice (some ⟨gb, 0, none⟩) 17 gc) ∧ W'.cell? ⟨fb, k, none⟩ = some (.int .i64 v) ∧ W'.cell? ⟨gb, j, none⟩ = some (YW2 gb W' j) ∧ W'.frozen? ⟨gb, j, none⟩ = false)
              (first | exact HD4.out _ (.inl rfl) | exact HD4.out _ (.inr rfl))
              (fail)
            all_goals (
              have h7 : Below (w4.setCell ⟨gb, j, none⟩ (.int .i64 v)).heap.size (w4.setCell ⟨gb, j, none⟩ (.int .i64 v)) (w4.setCell ⟨gb, j, none⟩ (.int .i64 v)).drew := (Below.refl _ _).drew
              have S6 := Lib.hid (S5.out.step h7)
              have O6 := Lib.hid (O5.out.below h7)
              have E6 := Lib.hid (rowv_below E5.out h7)
              have hpc6 : (w4.setCell ⟨gb, j, none⟩ (.int .i64 v)).drew.cell? ⟨pb, poff + j, none⟩ = some (.string t) := hpc5
              have hfc6 : (w4.setCell ⟨gb, j, none⟩ (.int .i64 v)).drew.cell? ⟨fb, k, none⟩ = some (.int .i64 v) := hfc5
              clear S5 O5 E5 hpc5 hfc5 h7 HD4
              generalize (w4.setCell ⟨gb, j, none⟩ (.int .i64 v)).drew = w5 at S6 O6 E6 hpc6 hfc6 ⊢
              obtain ⟨w6, hw6⟩ : ∃ w6, w6 = w5.drew.alloc (.cells #[.int .i64 v, .string t] 87) := ⟨_, rfl⟩
              have k6 : Below w5.heap.size w5 w6 := by rw [hw6]; exact bt (Below.refl _ _).drew (alloc_below _ _)
              have S7 := Lib.hid (S6.out.step k6)
              have O7 := Lib.hid (O6.out.below k6)
              have HOw := Lib.hid (rowv_below E6.out k6)
              have HNw : Hid (∀ i u, [Value.int .i64 v, .string t][i]? = some u → w6.cell? ⟨w5.heap.size, i, none⟩ = some u) := Lib.hid (fun i u hj => by
                rw [hw6]
                match i, hj with
                | 0, hj => simp at hj; subst hj; exact (Box.new w5.drew 87 #[.int .i64 v, .string t]).cell 0 rfl
                | 1, hj => simp at hj; subst hj; exact (Box.new w5.drew 87 #[.int .i64 v, .string t]).cell 1 rfl)
              have HK9 := Lib.hid (plan_held (w := w) (B := B) (f := f) k6 O7.out HOw.out Hkf.out HV.out Hpl.out hfc6 hpc6)
              have HB6 : Hid (w.heap.size ≤ w6.heap.size) := Lib.hid S7.out.bel.size
              subst hw6
              clear hpc6 hfc6 S6 O6 E6 k6
              go_wp2
              go_region_held3 (fun W' => W'.cell? ⟨fb, k, none⟩ = some (.int .i64 v) ∧ W'.cell? ⟨pb, poff + j, none⟩ = some (.string t))
                (first | exact HK9.out _ (.inr (.inr ⟨hg9, hb9⟩)) | (with_reducible exact HK9.out _ (.inl rfl)) | (with_reducible exact HK9.out _ (.inr (.inl rfl))))
                (first | (refine step_app_one rfl (.tmp 48) (.tmp 59) 28 87 rfl (.agg #[.int .i64 0, .string ByteArray.empty]) 2 24 elemWr Try.underlying28 w.heap.size (.slice B k f) k (cellsW wl) ?_ HOw.out w5.heap.size 1 ?_ [.int .i64 v, .string t] rfl HNw.out ?_ ?_ ?_ ?_ ?_; simp [Act.eval]; simp [Act.eval]; (intro u hu; simp at hu; rcases hu with rfl | rfl <;> rfl); (unfold maxLen; omega); omega; (exact HB6.out); intro A2 c2 w7 hR9 hc9 hg9 hb9))
              all_goals (
                have S9 := Lib.hid (S7.out.grown HOw.out hg9 hb9)
                have O9 := Lib.hid (O7.out.grown HOw.out (by decide) hg9)
                have E9 : Hid (w7.ownsRow w.heap.size 87 2 (.slice A2 (k + 1) c2) (k + 1) (cellsW (wl ++ [(v, t)]))) := Lib.hid (by rw [← cellsW_snoc]; exact hR9)
                clear hR9 hc9 HK9 HNw S7 O7
                go_wp2
                go_roundw
                case rel => exact ⟨j + 1, k + 1, A2, c2, tb.set j v, wl ++ [(v, t)], by omega, by omega, by go_num, rfl, HN2, Lib.hid (by rw [List.length_append, HWl.out]; rfl), S9, Lib.hid ⟨_, O9.out⟩, E9⟩
                case measure => simp [intOf]; omega)))
      · obtain rfl : j = 17 := by omega
        have d0 := S.out.z.cell 0 rfl
        have d1 := S.out.z.cell 1 rfl
        have y0 := S.out.y.cell 0 rfl
        have y1 := S.out.y.cell 1 rfl
        have y0z := S.out.y.frozen 0
        have y1z := S.out.y.frozen 1
        have HSf := Lib.hid S.out
        have HEf := Lib.hid E.out
        clear S E O
        go_wp2
        refine bodyPost_ret (v := .tuple #[.agg #[.int .i64 (g + 1), .slice G 17 gc], .slice B k f]) (by simp [results, Try.results76, go_sem, y0, y1]) rfl ?_
        rw [HFrE.out, HPl.out]
        have EE := rowv_setBox (rowv_setBox HEf.out HSf.out.y (by decide) 0 (.int .i64 (g + 1))) (HSf.out.y.set 0 _) (by decide) 1 (.slice G 17 gc)
        refine ⟨G, gc, B, k, f, rfl, HWl, Lib.hid ?_, Lib.hid ?_, Lib.hid ((HSf.out.tab.two HSf.out.y (by decide) _ _).reads), Lib.hid ?_, ?_⟩
        · obtain ⟨_, cap, e1, e2⟩ := rowv_form HEf.out
          injection e1 with _ _ e1
          omega
        · rcases Nat.eq_zero_or_pos k with q | q
          · exact .inl q
          · obtain ⟨gg, cap, ev, _⟩ := ownW_of_owns HEf.out q
            injection ev with ev _ _
            exact .inr ⟨gg, ev⟩
        · rcases Nat.eq_zero_or_pos k with q | q
          · intro i hi
            have := HWl.out
            change i < wl.length at hi
            omega
          · obtain ⟨gg, cap, ev, y1', y2', y3', y4'⟩ := ownW_of_owns EE q
            injection ev with ev _ _
            subst ev
            exact (y4' 0 _ (by omega) y2').reads
        · exact ((HSf.out.bel.setCell (p := ⟨w.heap.size + 1 + 1, 0, none⟩) (by show w.heap.size ≤ w.heap.size + 1 + 1; omega) _).setCell (p := ⟨w.heap.size + 1 + 1, 1, none⟩) (by show w.heap.size ≤ w.heap.size + 1 + 1; omega) _)
end Go.Proofs.Ytlfmniekbiffjaa

/- The program's tables: changes, with, list. -/
namespace Go.Proofs.Ytlfmniekbiffjaa
open Go.RowKit

theorem cellsI_set (zs : List Int) (p : Nat) (x : Int) : (cellsI zs).set p (.int .i64 x) = cellsI (zs.set p x) := by unfold cellsI; rw [List.map_set]
theorem cellsI_at (zs : List Int) (p : Nat) (h : p < zs.length) : (cellsI zs)[p]? = some (.int .i64 (zs.getD p 0)) := by
  unfold cellsI; rw [List.getElem?_map, List.getD_eq_getElem?_getD, List.getElem?_eq_getElem h]; rfl
theorem cellsS_at (ss : List ByteArray) (p : Nat) (h : p < ss.length) : (cellsS ss)[p]? = some (.string (ss.getD p ByteArray.empty)) := by
  unfold cellsS; rw [List.getElem?_map, List.getD_eq_getElem?_getD, List.getElem?_eq_getElem h]; rfl
theorem below_drewN' {w w' : World} (h : Below w.heap.size w w') (n : Nat) : Below w.heap.size w (w'.drewN n) := below_drewN h n

set_option maxRecDepth 100000 in
/-- append of a literal of ints onto a row of the call's own. -/
theorem wpList_app_gro {ops : Array Oper} {rest : List Oper} {o : Oper} {a : Act} {Q : Exit → Act → World → Prop} {cs : Array Value} {W : World} (hgd : o.guard = none) (s x : Operand)
    (ho : o.op = .call { callee := .builtin .append, args := #[s, x], argTypes := #[39, 39] }) (base : Nat) (A' : Option Addr) (k c' : Nat) (zs : List Int) (hr : W.ownsRow base 3 1 (.slice A' k c') k (zs.map (Value.int .i64))) (us : List Int) (hcs : cs = (us.map (Value.int .i64)).toArray) (m d : Nat) (hm : us.length = m)
    (hs : a.eval s = .slice A' k c') (hx : a.eval x = .slice (some ⟨W.heap.size, 0, none⟩) m d) (hk : k + m ≤ 1000) (hbase : base ≤ W.heap.size)
    (h : ∀ A2 c2 w2, Hid (w2.ownsRow base 3 1 (.slice A2 (k + m) c2) (k + m) ((zs ++ us).map (Value.int .i64))) → Below base W w2 → wpList Try.prog ops Q rest (a.put o.dst (.slice A2 (k + m) c2)) w2) : wpList Try.prog ops Q (o :: rest) a (W.alloc (.cells cs 3)) := by
  have hba := alloc_below W (.cells cs 3)
  have hX := Box.new W 3 cs
  refine wpList_app_many hgd s x 39 3 ho (.int .i64 0) 1 8 elemInt Try.underlying39 base (.slice A' k c') k (zs.map (Value.int .i64)) hs (rowv_below hr hba) ⟨W.heap.size, 0, none⟩ m d hx (us.map (Value.int .i64)) (by simp [hm]) (fun j u hj => ?_) (fun u hu => ?_) (by unfold maxLen; omega) (by omega) (by have := hba.size; omega) (fun A2 c2 w2 hR _ _ hb => ?_)
  · rw [addr_add, Nat.zero_add]; exact hX.cell j (by rw [hcs]; simpa using hj)
  · obtain ⟨z, _, rfl⟩ := List.mem_map.1 hu; rfl
  · exact h A2 c2 w2 (Lib.hid (by rw [List.map_append]; exact hR)) ((hba.mono hbase).trans hb)

/-- A row of ints of the call's own, of a length. -/
def GivesRowI (zs : List Int) (w : World) (e : Ending) (w' : World) : Prop :=
  ∃ A c, e = .returned (.slice A zs.length c) ∧ Hid (OwnI w' w.heap.size w'.heap.size A zs) ∧ Below w.heap.size w w'

set_option maxRecDepth 100000 in
set_option maxHeartbeats 4000000 in
theorem tabChanges (ps ld : List ByteArray) (w : World) (hp : ps.length = 17) (hl : ld.length = 17) :
    Calls Try.prog 83 #[.agg (cellsS ps).toArray, .agg (cellsS ld).toArray] w (GivesRowI (diffN ps ld 17) w) := by
  obtain ⟨W0, hW0⟩ : ∃ W0, W0 = ((w.alloc (.cells (cellsS ps).toArray 84)).alloc (.cells (cellsS ld).toArray 84)) := ⟨_, rfl⟩
  have hb0 : Below w.heap.size w W0 := by rw [hW0]; exact bt (alloc_below _ _) (alloc_below _ _)
  have X0 : Hid (Box W0 w.heap.size 84 (cellsS ps).toArray) := Lib.hid (by rw [hW0]; exact (Box.new _ _ _).alloc _)
  have Y0 : Hid (Box W0 (w.heap.size + 1) 84 (cellsS ld).toArray) := Lib.hid (by rw [hW0]; simpa using Box.new (w.alloc (.cells (cellsS ps).toArray 84)) 84 (cellsS ld).toArray)
  have hs0 : w.heap.size + 2 ≤ W0.heap.size := by rw [hW0]; simp
  have HL := Lib.hid (And.intro hp hl)
  have HW0 := Lib.hid hW0
  generalize hcp : cellsS ps = cp at X0 HW0
  generalize hcl : cellsS ld = cl at Y0 HW0
  have HCp := Lib.hid hcp
  have HCl := Lib.hid hcl
  clear hp hl hW0 hcp hcl
  go_enter Try.func83, Try.ntmps83
  go_wp2
  rw [← HW0.out]
  go_loopw [5, 7] (fun s q wr => ∃ (k m : Nat) (A' : Option Addr) (c' : Nat), k ≤ 17 ∧ q = .int .i64 k ∧ s = .slice A' m c' ∧ Below w.heap.size w wr ∧ Hid (Box wr w.heap.size 84 cp.toArray) ∧ Hid (Box wr (w.heap.size + 1) 84 cl.toArray) ∧ Hid ((diffN ps ld k).length = m ∧ wr.ownsRow (w.heap.size + 2) 3 1 (.slice A' m c') m ((diffN ps ld k).map (Value.int .i64)) ∧ w.heap.size + 2 ≤ wr.heap.size)) (fun _ q _ => 17 - (intOf q).toNat)
  case atStart => exact ⟨0, 0, none, 0, by omega, rfl, rfl, hb0, X0, Y0, Lib.hid ⟨rfl, rowv_nil _ _ _ _, hs0⟩⟩
  case round =>
    clear X0 Y0 hb0 hs0 HW0
    obtain ⟨k, m, A', c', hk, rfl, rfl, hbw, X, Y, G⟩ := hrel
    by_cases hlt : k < 17
    · have hi : (k : Int) < 17 := by omega
      have hx := X.out.cell k (by rw [List.getElem?_toArray, ← HCp.out]; exact cellsS_at ps k (by rw [HL.out.1]; exact hlt))
      have hy := Y.out.cell k (by rw [List.getElem?_toArray, ← HCl.out]; exact cellsS_at ld k (by rw [HL.out.2]; exact hlt))
      have HSt : Hid (diffN ps ld (k + 1) = if ps.getD k ByteArray.empty = ld.getD k ByteArray.empty then diffN ps ld k else diffN ps ld k ++ [(k : Int)]) := Lib.hid rfl
      have hm17 : m ≤ 17 := by have := diffN_len ps ld k; have := G.out.1; omega
      generalize ps.getD k ByteArray.empty = x at hx HSt
      generalize ld.getD k ByteArray.empty = y at hy HSt
      have hq := bytes_beq x y
      by_cases hE : x = y
      · have hq1 : (x.toList == y.toList) = true := by rw [hq]; simp [hE]
        have HE := Lib.hid hE
        clear hq hE
        go_wp2
        go_quiet (fail)
        go_wp2
        go_roundw
        case rel =>
          refine ⟨k + 1, m, A', c', by omega, by go_num, rfl, below_drewN hbw _, Lib.hid X.out, Lib.hid Y.out, Lib.hid ?_⟩
          rw [HSt.out, if_pos HE.out]; exact G.out
        case measure => simp [intOf]; omega
      · have hq1 : (x.toList == y.toList) = false := by rw [hq]; simp [hE]
        have HE := Lib.hid hE
        clear hq hE
        have HB : Hid (w.heap.size + 2 ≤ wr.heap.size) := Lib.hid G.out.2.2
        go_wp2
        go_quiet (fail)
        go_wp2_with (at_builtin; refine wpList_app_gro rfl (.tmp 17) (.tmp 19) rfl (w.heap.size + 2) A' m c' (diffN ps ld k) ?hr [_] rfl 1 1 rfl rfl rfl (by omega) ?hb ?_)
        case hr => exact G.out.2.1
        case hb => exact HB.out
        intro A2 c2 w2 hR2 hb2
        have hb2' : Below (w.heap.size + 2) wr w2 := (below_drewN (Below.refl _ _) _).trans hb2
        have X2 := Lib.hid (X.out.below hb2' (by omega))
        have Y2 := Lib.hid (Y.out.below hb2' (by omega))
        have hbz : Below w.heap.size w w2 := hbw.trans (hb2'.mono (by omega))
        have HSz : Hid (w.heap.size + 2 ≤ w2.heap.size) := Lib.hid (by have := HB.out; have := hb2'.size; omega)
        have HG2 : Hid ((diffN ps ld (k + 1)).length = m + 1 ∧ w2.ownsRow (w.heap.size + 2) 3 1 (.slice A2 (m + 1) c2) (m + 1) ((diffN ps ld (k + 1)).map (Value.int .i64)) ∧ w.heap.size + 2 ≤ w2.heap.size) := Lib.hid (by
          rw [HSt.out, if_neg HE.out]
          exact ⟨by rw [List.length_append, G.out.1]; rfl, by rw [List.map_append]; simpa using hR2.out, HSz.out⟩)
        clear hx hy hb2 hb2' hR2 X Y G hbw HSt
        go_wp2
        go_roundw
        case rel => exact ⟨k + 1, m + 1, A2, c2, by omega, by go_num, rfl, hbz, X2, Y2, HG2⟩
        case measure => simp [intOf]; omega
    · obtain rfl : k = 17 := by omega
      have HO : Hid (OwnI wr w.heap.size wr.heap.size A' (diffN ps ld 17)) := Lib.hid (GroI.own (base := w.heap.size + 2) (n := m) (c := c') (by unfold GroI; rw [G.out.1]; exact G.out.2.1) (by omega))
      have HM : Hid (m = (diffN ps ld 17).length) := Lib.hid G.out.1.symm
      clear X Y G
      go_wp2
      go_ret
      exact ⟨A', c', congrArg (fun m => Ending.returned (Value.slice A' m c')) HM.out, HO, hbw⟩

set_option maxRecDepth 100000 in
set_option maxHeartbeats 4000000 in
theorem tabWith (zs places free : List Int) (P F : Option Addr) (m cm nf cf : Nat) (w : World) (hz : zs.length = 17) (hm : places.length = m) (hm17 : m ≤ 17) (hp : ∀ p ∈ places, 0 ≤ p ∧ p < 17) (hf : free.length = nf) (hnf : m ≤ nf) (hnf2 : nf ≤ 100) (h : IntL w P places) (g : IntL w F free) :
    Calls Try.prog 85 #[.agg (cellsI zs).toArray, .slice P m cm, .slice F nf cf] w fun e w' => e = .returned (.agg (cellsI (withN zs places free m)).toArray) ∧ Below w.heap.size w w' := by
  obtain ⟨W0, hW0⟩ : ∃ W0, W0 = ((w.alloc (.cells (cellsI zs).toArray 106)).alloc (.cells #[.int .i64 0, .int .i64 0, .int .i64 0, .int .i64 0, .int .i64 0, .int .i64 0, .int .i64 0, .int .i64 0, .int .i64 0, .int .i64 0, .int .i64 0, .int .i64 0, .int .i64 0, .int .i64 0, .int .i64 0, .int .i64 0, .int .i64 0] 106)) := ⟨_, rfl⟩
  have hb0 : Below w.heap.size w W0 := by rw [hW0]; exact bt (alloc_below _ _) (alloc_below _ _)
  have X0 : Hid (Box W0 w.heap.size 106 (cellsI zs).toArray) := Lib.hid (by rw [hW0]; exact (Box.new _ _ _).alloc _)
  have Y0 : Hid (Box W0 (w.heap.size + 1) 106 #[.int .i64 0, .int .i64 0, .int .i64 0, .int .i64 0, .int .i64 0, .int .i64 0, .int .i64 0, .int .i64 0, .int .i64 0, .int .i64 0, .int .i64 0, .int .i64 0, .int .i64 0, .int .i64 0, .int .i64 0, .int .i64 0, .int .i64 0]) := Lib.hid (by rw [hW0]; simpa using Box.new (w.alloc (.cells (cellsI zs).toArray 106)) 106 #[.int .i64 0, .int .i64 0, .int .i64 0, .int .i64 0, .int .i64 0, .int .i64 0, .int .i64 0, .int .i64 0, .int .i64 0, .int .i64 0, .int .i64 0, .int .i64 0, .int .i64 0, .int .i64 0, .int .i64 0, .int .i64 0, .int .i64 0])
  have HL := Lib.hid (And.intro hz (And.intro hm (And.intro hp (And.intro hf (And.intro h g)))))
  have HW0 := Lib.hid hW0
  generalize hcz : cellsI zs = cz at HW0
  clear hz hm hp hf h g hW0
  go_enter Try.func85, Try.ntmps85
  go_wp2
  rw [← HW0.out]
  go_loopw [11] (fun q wr => ∃ j : Nat, j ≤ m ∧ q = .int .i64 j ∧ Below w.heap.size w wr ∧ Hid (Box wr w.heap.size 106 (cellsI (withN zs places free j)).toArray) ∧ Hid (Box wr (w.heap.size + 1) 106 #[.int .i64 0, .int .i64 0, .int .i64 0, .int .i64 0, .int .i64 0, .int .i64 0, .int .i64 0, .int .i64 0, .int .i64 0, .int .i64 0, .int .i64 0, .int .i64 0, .int .i64 0, .int .i64 0, .int .i64 0, .int .i64 0, .int .i64 0])) (fun q _ => m - (intOf q).toNat)
  case atStart => exact ⟨0, by omega, rfl, hb0, X0, Y0⟩
  case round =>
    clear X0 Y0 hb0 HW0 hcz
    obtain ⟨j, hj, rfl, hbw, X, Y⟩ := hrel
    by_cases hlt : j < m
    · have hi : (j : Int) < (m : Int) := by omega
      have hi2 : (j : Int) < (nf : Int) := by omega
      obtain ⟨pb, poff, rfl, hc⟩ := (HL.out.2.2.2.2.1.below hbw) j (by rw [HL.out.2.1]; exact hlt)
      obtain ⟨fb, foff, rfl, hd⟩ := (HL.out.2.2.2.2.2.below hbw) j (by rw [HL.out.2.2.2.1]; omega)
      have hpr : 0 ≤ places.getD j 0 ∧ places.getD j 0 < 17 := HL.out.2.2.1 _ (by rw [List.getD_eq_getElem?_getD, List.getElem?_eq_getElem (by rw [HL.out.2.1]; exact hlt)]; exact List.getElem_mem _)
      have HSt : Hid (withN zs places free (j + 1) = (withN zs places free j).set (places.getD j 0).toNat (free.getD j 0)) := Lib.hid rfl
      obtain ⟨p, hpe⟩ : ∃ p : Nat, places.getD j 0 = p := ⟨(places.getD j 0).toNat, by omega⟩
      rw [hpe] at hc hpr HSt
      rw [Int.toNat_natCast] at HSt
      have hp17 : (p : Int) < 17 := hpr.2
      have hpn : p < 17 := by omega
      generalize free.getD j 0 = v at hd HSt
      have hx := X.out.cell p (by rw [List.getElem?_toArray]; exact cellsI_at _ p (by rw [withN_len, HL.out.1]; exact hpn))
      have hxz := X.out.frozen p
      generalize (withN zs places free j).getD p 0 = y at hx
      have X2 : Hid (Box (wr.setCell ⟨w.heap.size, p, none⟩ (.int .i64 v)) w.heap.size 106 (cellsI (withN zs places free (j + 1))).toArray) := Lib.hid (by
        have := X.out.set p (.int .i64 v)
        rw [List.setIfInBounds_toArray, cellsI_set, ← HSt.out] at this
        exact this)
      have Y2 := Lib.hid (Y.out.far (p := ⟨w.heap.size, p, none⟩) (by show w.heap.size + 1 ≠ w.heap.size; omega) (.int .i64 v))
      have hb2 : Below w.heap.size w (wr.setCell ⟨w.heap.size, p, none⟩ (.int .i64 v)) := hbw.setCell (p := ⟨w.heap.size, p, none⟩) (Nat.le_refl _) _
      clear X Y hbw HSt hpe
      go_wp2
      go_roundw
      case rel => exact ⟨j + 1, by omega, by go_num, hb2, X2, Y2⟩
      case measure => simp [intOf]; omega
    · obtain rfl : j = m := by omega
      have HN : Hid ((cellsI (withN zs places free j)).length = 17) := Lib.hid (by rw [cellsI_len, withN_len]; exact HL.out.1)
      have HRg : Hid (wr.rangeAt w.heap.size 0 (cellsI (withN zs places free j))) := Lib.hid (fun i v hi => by rw [Nat.zero_add]; exact X.out.cell i (by simpa using hi))
      have HTh : Hid (wr.there (w.heap.size + 1) 0 17) := Lib.hid (fun i hi => by
        rw [Nat.zero_add]
        have : (#[.int .i64 0, .int .i64 0, .int .i64 0, .int .i64 0, .int .i64 0, .int .i64 0, .int .i64 0, .int .i64 0, .int .i64 0, .int .i64 0, .int .i64 0, .int .i64 0, .int .i64 0, .int .i64 0, .int .i64 0, .int .i64 0, .int .i64 0] : Array Value) = Array.replicate 17 (.int .i64 0) := rfl
        exact ⟨by rw [Y.out.cell i (v := .int .i64 0) (by rw [this, Array.getElem?_replicate, if_pos hi])]; rfl, Y.out.frozen i⟩)
      have HOn : Hid (∀ v ∈ cellsI (withN zs places free j), v.oneCell' = true) := Lib.hid (cellsI_one _)
      generalize hcs : cellsI (withN zs places free j) = cs at HN HRg HOn
      have HCs := Lib.hid hcs
      have HRs := Lib.hid (World.rangeAt_setCells_same wr (w.heap.size + 1) 0 cs (by rw [HN.out]; exact HTh.out))
      have hin : (Try.prog.info? 106).map (·.size) = some cs.length := by rw [HN.out]; kernel_rfl
      have HIn := Lib.hid hin
      have HLd := Lib.hid (run_loadVar_mid (P := Try.prog) (wr.setCells (w.heap.size + 1) 0 cs) (w.heap.size + 1) 0 106 cs _ HRs.out Try.underlying106 rfl hin)
      clear hin hcs X Y
      go_wp2_with (first
        | (with_reducible refine wpList_load_mid rfl 106 (.tmp 3) rfl w.heap.size 0 rfl cs _ HRg.out Try.underlying106 rfl HIn.out ?_)
        | (with_reducible refine wpList_store_mid rfl 106 (.tmp 6) (.tmp 23) rfl (w.heap.size + 1) 0 cs.toArray rfl rfl (by simpa [HN.out] using HTh.out) (by simpa using HIn.out) (all_oneCell_toArray HOn.out) ?_))
      refine bodyPost_ret (v := .agg cs.toArray) (results_cell Try.results85 (by rfl) HLd.out) rfl ?_
      exact ⟨by rw [HCs.out], below_setCellsL hbw (by omega) 0 cs⟩

set_option maxRecDepth 100000 in
set_option maxHeartbeats 2000000 in
theorem tabListI (zs : List Int) (w : World) (hl : zs.length = 17) :
    Calls Try.prog 86 #[.agg (cellsI zs).toArray] w (GivesRowI zs w) := by
  have hmk : ∀ V : World, (Instr.makeSlice 39 (.int .i64 17) (.int .i64 17)).run Try.prog V = .ok (.slice (some ⟨V.heap.size, 0, none⟩) 17 17) (V.alloc (.cells (madeCells #[.int .i64 0] 17) 3)) := fun V => run_make_row' (P := Try.prog) 39 3 (.int .i64 0) 8 Try.underlying39 infoI rfl .i64 .i64 17 (by omega) (by omega) V
  obtain ⟨Z, hZ⟩ : ∃ Z : List Value, Z.toArray = madeCells #[.int .i64 0] 17 := ⟨(madeCells #[.int .i64 0] 17).toList, by simp⟩
  have HZ : Hid (Z.length = 17) := Lib.hid (by
    have := congrArg Array.size hZ
    simpa [madeCells] using this)
  rw [← hZ] at hmk
  have hb0 : Below w.heap.size w ((w.alloc (.cells (cellsI zs).toArray 106)).alloc (.cells Z.toArray 3)) := bt (alloc_below _ _) (alloc_below _ _)
  have HL := Lib.hid hl
  have HN : Hid ((cellsI zs).length = 17) := Lib.hid (by rw [cellsI_len]; exact hl)
  have hg : Hid (((w.alloc (.cells (cellsI zs).toArray 106)).alloc (.cells Z.toArray 3)).heap[w.heap.size + 1]? = some (.cells Z.toArray 3 (0, 0))) := Lib.hid (by
    have := Box.new (w.alloc (.cells (cellsI zs).toArray 106)) 3 Z.toArray
    rw [World.size_alloc] at this
    exact this)
  have HX : Hid (Box ((w.alloc (.cells (cellsI zs).toArray 106)).alloc (.cells Z.toArray 3)) w.heap.size 106 (cellsI zs).toArray) := Lib.hid ((Box.new _ _ _).alloc _)
  clear hl hZ
  go_enter Try.func86, Try.ntmps86
  go_wp2_with (with_reducible refine wpList_copy_splice rfl (.tmp 5) (.tmp 6) 39 39 rfl 3 Try.underlying39 szInt1 _ _ 17 17 17 17 rfl rfl (w.heap.size + 1) 0 Z 3 hg.out (cellsI zs) ?h1 ?h2 ?h3 ?h4 w.heap.size w hb0 (by omega) ?_)
  case h1 => rw [HN.out]; rfl
  case h3 => rw [HN.out, HZ.out]; omega
  case h4 => exact cellsI_one zs
  intro w2 hg2 hb2
  have HR : Hid (OwnI w2 w.heap.size w2.heap.size (some ⟨w.heap.size + 1, 0, none⟩) zs) := Lib.hid (by
    have := hg2.out
    rw [splice_all' _ _ (by rw [HN.out, HZ.out])] at this
    have hlt : w.heap.size + 1 < w2.heap.size := (Array.getElem?_eq_some_iff.1 this).1
    refine .inr ⟨w.heap.size + 1, 17, fun i => .int .i64 (zs.getD i 0), rfl, by omega, hlt, by rw [HL.out]; omega, ⟨_, this, by simpa using HN.out, fun i hi => ?_⟩, fun i _ => rfl⟩
    rw [List.getElem?_toArray]
    exact cellsI_at zs i (by rw [HL.out]; exact hi))
  clear hg2 hg hmk HX
  go_wp2
  go_ret
  exact ⟨some ⟨w.heap.size + 1, 0, none⟩, 17, congrArg (fun m => Ending.returned (Value.slice (some ⟨w.heap.size + 1, 0, none⟩) m 17)) HL.out.symm, HR, hb2⟩
end Go.Proofs.Ytlfmniekbiffjaa
