/- impl.Disk.settleWrites and flushWrites: the writes of a list settle on a disk with nothing in its cache. -/
import Derived.Test.YtcchhbkbnbphhaaM7
import Derived.Test.YtcchhbkbnbphhaaM1
import Derived.Deep.DeepMust
import Derived.Test.YtcchhbkbnbphhaaSettle
import Derived.Test.YtcchhbkbnbphhaaM5
namespace Go.Proofs.Ytcchhbkbnbphhaa
open Go.RowKit

set_option maxRecDepth 100000 in
theorem run_app_none (b : Addr) (B : Option Addr) (f : Nat) (ty : TypeId) (w : World) : (Builtin.append_ #[24, 24] ty #[.slice (some b) 0 0, .slice B 0 f]).run Try.prog w = .ok (.slice (some b) 0 0) w := by
  cases B <;> go_simp
set_option maxRecDepth 100000 in
theorem wpList_app_none {ops : Array Oper} {rest : List Oper} {o : Oper} {a : Act} {w : World} {Q : Exit → Act → World → Prop}
    (hg : o.guard = none) (s x : Operand) (hop : o.op = Op.call { callee := Callee.builtin Builtin.append, args := #[s, x], argTypes := #[24, 24] })
    (b : Addr) (hs : a.eval s = .slice (some b) 0 0) (B : Option Addr) (f : Nat) (hx : a.eval x = .slice B 0 f) (h : wpList Try.prog ops Q rest (a.put o.dst (.slice (some b) 0 0)) w) : wpList Try.prog ops Q (o :: rest) a w :=
  wpList_plain hg fun _ hK => by
    have hr := run_app_none b B f o.type w
    unfold Oper.wp execOp
    simp only [hop, resolve, invoke, builtin, Sem.run_bind, Sem.run_pure, Result.andThen_ok, List.map_toArray, List.map_cons, List.map_nil, hs, hx, hr]
    exact hK _ _ h

set_option maxRecDepth 100000 in
set_option maxHeartbeats 4000000 in
theorem settleWrites (A C F B : Option Addr) (n c d nf cf k f : Nat) (ss : List ByteArray) (ls : List (Int × ByteArray)) (fs : List Int) (w : World) (hl : ss.length = n) (hk : ls.length = k) (hf : fs.length = nf) (hnf : nf ≤ maxLen) (h : StrL w A ss) (g : WrL w B ls) (i : IntL w F fs) (ok : Ok ss ls) :
    Calls Try.prog 42 #[.agg #[.slice A n c, .slice C 0 d], .slice B k f, .slice F nf cf] w (GivesDisk (settleN ss ls fs k) [] w) := by
  obtain ⟨W0, hW0⟩ : ∃ W0, W0 = ((w.alloc (.cells #[.slice A n c, .slice C 0 d] 26)).alloc (.cells #[.slice none 0 0, .slice none 0 0] 26)) := ⟨_, rfl⟩
  have hb0 : Below w.heap.size w W0 := by rw [hW0]; exact bt (alloc_below _ _) (alloc_below _ _)
  have Y0 : Hid (Box W0 (w.heap.size + 1) 26 #[.slice none 0 0, .slice none 0 0]) := Lib.hid (by rw [hW0]; simpa using Box.new (w.alloc (.cells #[.slice A n c, .slice C 0 d] 26)) 26 #[.slice none 0 0, .slice none 0 0])
  have hn48 : n = 48 := by have := ok.n48; omega
  have hk60 : k ≤ 60 := by have := ok.m60; omega
  have HCl := Lib.hid (clone A C n c 0 d ss [] W0 hl rfl (by omega) (by omega) (h.below hb0) (fun i hi => by simp at hi))
  have HSt := Lib.hid (fun A' c' C' m' d' W (ws : List (Int × ByteArray)) (hm : ws.length = m') (h' : StrL W A' ss) (g' : WrL W C' ws) (hb : Below w.heap.size w W) (ok : Ok ss ws) => settle A' C' F n c' m' d' nf cf ss ws fs W hl hm hf hnf h' g' (i.below hb) ok)
  have H := Lib.hid (And.intro hl (And.intro hk (And.intro g ok)))
  have HW0 := Lib.hid hW0
  clear hl hk hf hnf h g i ok hW0 hn48
  go_enter Try.func42, Try.ntmps42
  go_wp2_with fail
  rw [← HW0.out]
  refine HCl.out.mono ?_
  rintro e w1 ⟨b, b', rfl, R1, hb1⟩
  obtain ⟨D, hD⟩ : ∃ D, D = w1.heap.size := ⟨_, rfl⟩
  obtain ⟨w2, hw2⟩ : ∃ w2, w2 = w1.alloc (.cells #[.slice (some ⟨b, 0, none⟩) n n, .slice (some ⟨b', 0, none⟩) 0 0] 26) := ⟨_, rfl⟩
  have hb2 : Below w1.heap.size w1 w2 := by rw [hw2]; exact alloc_below _ _
  have X2 : Hid (Box w2 D 26 #[.slice (some ⟨b, 0, none⟩) n n, .slice (some ⟨b', 0, none⟩) 0 0]) := Lib.hid (by rw [hw2, hD]; exact Box.new _ _ _)
  have Y2 := Lib.hid ((Y0.out.step hb1).step hb2)
  have O2 : Hid (OwnS w2 w.heap.size w2.heap.size (some ⟨b, 0, none⟩) ss) := Lib.hid (by
    obtain ⟨q1, q2, q3, q4⟩ := R1.out
    have := own_of_rowS (lo := w.heap.size) (hi := w2.heap.size) H.out.1 (row_below hb2 q3 q3.lt) (by have := hb0.size; omega) (row_below hb2 q3 q3.lt).lt
    exact this)
  have hbw2 : Below w.heap.size w w2 := bt (bt hb0 hb1) hb2
  have hDl : w.heap.size + 1 < D := by have := Y0.out.lt; have := hb1.size; omega
  have HW2 := Lib.hid hw2
  have f1 := X2.out.cell 1 rfl
  rw [hw2, hD] at f1
  clear hw2 HCl R1 hb1 hb2 Y0 hb0 HW0
  by_cases hk0 : k = 0
  · have hls : ls = [] := List.eq_nil_of_length_eq_zero (by have := H.out.2.1; omega)
    subst hk0 hls
    have X3 := X2.out
    have X4 : Box (w2.setCell ⟨D, 1, none⟩ (.slice (some ⟨b', 0, none⟩) 0 0)) D 26 #[.slice (some ⟨b, 0, none⟩) n n, .slice (some ⟨b', 0, none⟩) 0 0] := X3.set 1 (.slice (some ⟨b', 0, none⟩) 0 0)
    have Y4 := Lib.hid (Y2.out.far (p := ⟨D, 1, none⟩) (by show w.heap.size + 1 ≠ D; omega) (.slice (some ⟨b', 0, none⟩) 0 0))
    have OS4 := O2.out.far X3 1 (.slice (some ⟨b', 0, none⟩) 0 0)
    have hb4 : Below w.heap.size w (w2.setCell ⟨D, 1, none⟩ (.slice (some ⟨b', 0, none⟩) 0 0)) := hbw2.setCell (p := ⟨D, 1, none⟩) (by show w.heap.size ≤ D; omega) _
    have HS := Lib.hid (HSt.out (some ⟨b, 0, none⟩) n (some ⟨b', 0, none⟩) 0 0 _ [] rfl OS4.reads (fun i hi => by simp at hi) hb4 H.out.2.2.2)
    have k1 := X3.cell 1 rfl
    have k1z := X3.frozen 1
    have m0 := X4.cell 0 rfl
    have m1 := X4.cell 1 rfl
    rw [hD] at k1 k1z m0 m1 HS hb4 Y4
    clear X3 X4 OS4 f1 hbw2 X2 Y2 O2
    have k1' := k1
    rw [HW2.out] at k1'
    go_wp2_with (first | (at_builtin; rw [← HW2.out]; refine wpList_app_none rfl (.tmp 11) (.tmp 12) rfl ⟨b', 0, none⟩ rfl B f rfl ?_))
    refine HS.out.mono ?_
    rintro e w5 ⟨A5, n5, c5, C5, m5, d5, rfl, L5, M5, S5, R5, hb5⟩
    have Y5 := Y4.out.step hb5
    have s0 := Y5.cell 0 rfl
    have s1 := Y5.cell 1 rfl
    have s0z := Y5.frozen 0
    have s1z := Y5.frozen 1
    have HY5 := Lib.hid Y5
    have HQ : Hid (w.heap.size ≤ (w2.setCell ⟨w1.heap.size, 1, none⟩ (.slice (some ⟨b', 0, none⟩) 0 0)).heap.size) := Lib.hid hb4.size
    have HB5 := Lib.hid (bt hb4 hb5)
    clear Y5 Y4 hb4 hb5 k1 k1' k1z m0 m1 HS
    go_wp2
    refine bodyPost_ret (v := .agg #[.slice A5 n5 c5, .slice C5 m5 d5]) (by simp [results, Try.results42, go_sem, s0, s1]) rfl ?_
    exact ⟨A5, n5, c5, C5, m5, d5, rfl, L5, M5, Lib.hid (((S5.out.far HY5.out 0 _).far (HY5.out.set 0 _) 1 _).wide HQ.out (by simp [World.setCell])), Lib.hid (.inl rfl), below_stored HB5.out⟩
  · have hk1 : 0 < k := by omega
    have HSrc := Lib.hid ((H.out.2.2.1.below hbw2).src (by have := H.out.2.1; omega))
    have HCw : Hid ((cellsW ls).length = k * 2) := Lib.hid (by rw [cellsW_len, H.out.2.1])
    go_wp2_with (at_builtin; rw [← HW2.out]; go_must (refine wpList_app_fresh rfl (.tmp 11) (.tmp 12) 24 rfl 67 (.agg #[.int .i64 0, .string ByteArray.empty]) 2 24 Try.underlying24 infoWx rfl (by decide) _ rfl B k f hk1 (cellsW ls) rfl HCw.out HSrc.out (by unfold maxLen; omega) (by omega) ?_))
    intro A3 c3 w3 hb3 O3
    have X3 := X2.out.step hb3
    have Y3 := Y2.out.step hb3
    obtain ⟨gg, cap, ev, q1, q2, q3, q4⟩ := ownW_of_owns O3.out hk1
    injection ev with ev _ ec
    subst ev ec
    have OW3 := q4 w.heap.size w3.heap.size (by have := hbw2.size; omega) q2
    have OS3 := (O2.out.below hb3).wide (Nat.le_refl _) hb3.size
    have X4 : Box (w3.setCell ⟨D, 1, none⟩ (.slice (some ⟨gg, 0, none⟩) k c3)) D 26 #[.slice (some ⟨b, 0, none⟩) n n, .slice (some ⟨gg, 0, none⟩) k c3] := X3.set 1 (.slice (some ⟨gg, 0, none⟩) k c3)
    have Y4 := Lib.hid (Y3.far (p := ⟨D, 1, none⟩) (by show w.heap.size + 1 ≠ D; omega) (.slice (some ⟨gg, 0, none⟩) k c3))
    have OW4 := OW3.far X3 1 (.slice (some ⟨gg, 0, none⟩) k c3)
    have OS4 := OS3.far X3 1 (.slice (some ⟨gg, 0, none⟩) k c3)
    have hb4 : Below w.heap.size w (w3.setCell ⟨D, 1, none⟩ (.slice (some ⟨gg, 0, none⟩) k c3)) := (bt hbw2 hb3).setCell (p := ⟨D, 1, none⟩) (by show w.heap.size ≤ D; omega) _
    have HS := Lib.hid (HSt.out (some ⟨b, 0, none⟩) n (some ⟨gg, 0, none⟩) k c3 _ ls H.out.2.1 OS4.reads OW4.reads hb4 H.out.2.2.2)
    have k1 := X3.cell 1 rfl
    have k1z := X3.frozen 1
    have m0 := X4.cell 0 rfl
    have m1 := X4.cell 1 rfl
    rw [hD] at k1 k1z m0 m1 HS hb4 Y4
    clear X3 Y3 X4 OW3 OS3 OW4 OS4 O3 hb3 q1 q2 q3 q4 f1 HSrc HCw hbw2 X2 Y2 O2
    go_wp2_with fail
    refine HS.out.mono ?_
    rintro e w5 ⟨A5, n5, c5, C5, m5, d5, rfl, L5, M5, S5, R5, hb5⟩
    have Y5 := Y4.out.step hb5
    have s0 := Y5.cell 0 rfl
    have s1 := Y5.cell 1 rfl
    have s0z := Y5.frozen 0
    have s1z := Y5.frozen 1
    have HY5 := Lib.hid Y5
    have HQ : Hid (w.heap.size ≤ (w3.setCell ⟨w1.heap.size, 1, none⟩ (.slice (some ⟨gg, 0, none⟩) k c3)).heap.size) := Lib.hid hb4.size
    have HB5 := Lib.hid (bt hb4 hb5)
    clear Y5 Y4 hb4 hb5 k1 k1z m0 m1 HS
    go_wp2
    refine bodyPost_ret (v := .agg #[.slice A5 n5 c5, .slice C5 m5 d5]) (by simp [results, Try.results42, go_sem, s0, s1]) rfl ?_
    exact ⟨A5, n5, c5, C5, m5, d5, rfl, L5, M5, Lib.hid (((S5.out.far HY5.out 0 _).far (HY5.out.set 0 _) 1 _).wide HQ.out (by simp [World.setCell])), Lib.hid (.inl rfl), below_stored HB5.out⟩

set_option maxRecDepth 100000 in
set_option maxHeartbeats 2000000 in
theorem flushWrites (A C B : Option Addr) (n c d k f : Nat) (ss : List ByteArray) (ls : List (Int × ByteArray)) (w : World) (hl : ss.length = n) (hk : ls.length = k) (h : StrL w A ss) (g : WrL w B ls) (ok : Ok ss ls) :
    Calls Try.prog 34 #[.agg #[.slice A n c, .slice C 0 d], .slice B k f] w (GivesDisk (settleN ss ls [1] k) [] w) := by
  obtain ⟨W0, hW0⟩ : ∃ W0, W0 = (((w.alloc (.cells #[.slice A n c, .slice C 0 d] 26)).alloc (.cells #[.slice none 0 0, .slice none 0 0] 26)).alloc (.cells #[.int .i64 1] 3)) := ⟨_, rfl⟩
  have hb0 : Below w.heap.size w W0 := by rw [hW0]; exact bt (bt (alloc_below _ _) (alloc_below _ _)) (alloc_below _ _)
  have Y0 : Hid (Box W0 (w.heap.size + 1) 26 #[.slice none 0 0, .slice none 0 0]) := Lib.hid (by rw [hW0]; simpa using (Box.new (w.alloc (.cells #[.slice A n c, .slice C 0 d] 26)) 26 #[.slice none 0 0, .slice none 0 0]).alloc (.cells #[.int .i64 1] 3))
  have Z0 : Box W0 (w.heap.size + 1 + 1) 3 #[.int .i64 1] := by rw [hW0]; simpa using Box.new ((w.alloc (.cells #[.slice A n c, .slice C 0 d] 26)).alloc (.cells #[.slice none 0 0, .slice none 0 0] 26)) 3 #[.int .i64 1]
  have HI : IntL W0 (some ⟨w.heap.size + 1 + 1, 0, none⟩) [1] := fun i hi => by
    obtain rfl : i = 0 := by simpa using hi
    exact ⟨_, _, rfl, Z0.cell 0 rfl⟩
  have HS := Lib.hid (settleWrites A C (some ⟨w.heap.size + 1 + 1, 0, none⟩) B n c d 1 1 k f ss ls [1] W0 hl hk rfl (by unfold maxLen; omega) (h.below hb0) (g.below hb0) HI ok)
  have HW0 := Lib.hid hW0
  clear hl hk h g ok hW0 Z0 HI
  go_enter Try.func34, Try.ntmps34
  go_wp2_with fail
  rw [← HW0.out]
  refine HS.out.mono ?_
  rintro e w5 ⟨A5, n5, c5, C5, m5, d5, rfl, L5, M5, S5, R5, hb5⟩
  have Y5 := Y0.out.step hb5
  have s0 := Y5.cell 0 rfl
  have s1 := Y5.cell 1 rfl
  have s0z := Y5.frozen 0
  have s1z := Y5.frozen 1
  have HY5 := Lib.hid Y5
  clear Y5 HS
  go_wp2
  refine bodyPost_ret (v := .agg #[.slice A5 n5 c5, .slice C5 m5 d5]) (by simp [results, Try.results34, go_sem, s0, s1]) rfl ?_
  exact ⟨A5, n5, c5, C5, m5, d5, rfl, L5, M5, Lib.hid (((S5.out.far HY5.out 0 _).far (HY5.out.set 0 _) 1 _).wide hb0.size (by simp [World.setCell])), Lib.hid (.inl rfl), below_stored (bt hb0 hb5)⟩
end Go.Proofs.Ytcchhbkbnbphhaa
