/- The model's own copy of a disk: l01Own. -/
import Derived.Test.YtoogaaoknpfkoaaWriteImpl
import Derived.Deep.RegionLaw
import Derived.Deep.RegionHeld3
namespace Go.Proofs.Ytoogaaoknpfkoaa
open Go.RowKit

/-- append onto an empty row without room: the row itself, or a new one. -/
theorem run_app_new {P : Program} (w : World) (t ty e : TypeId) (i : TypeInfo) (z : Value) (size bytes : Nat) (ht : P.underlying t = some (.slice e)) (hi : P.info? e = some i) (hz : i.zero = some z)
    (hsize : i.size = size) (hby : i.bytes = bytes) (hzs : z.cells.size = size) (hsz : 0 < size) (b : Addr)
    (A : Option Addr) (m c : Nat) (news : List Value) (hl : news.length = m * size) (hsrc : 0 < m → ∃ ad, A = some ad ∧ ∀ j u, news[j]? = some u → w.cell? (ad.add j) = some u)
    (h63 : m ≤ maxLen) (hbytes : m * bytes ≤ 140737488355328) :
    ∃ A' cap w', (Builtin.append_ #[t, t] ty #[.slice (some b) 0 0, .slice A m c]).run P w = .ok (.slice A' m cap) w' ∧ Below w.heap.size w w' ∧ (m = 0 ∧ A' = some b ∧ cap = 0 ∧ w' = w ∨ 0 < m ∧ w'.ownsRow w.heap.size e size (.slice A' m cap) m news) := by
  rcases Nat.eq_zero_or_pos m with rfl | hm
  · refine ⟨some b, 0, w, ?_, Below.refl _ _, .inl ⟨rfl, rfl, rfl, rfl⟩⟩
    cases A <;> simp [Builtin.append_, run_underlying ht, sizeOf, typeInfo, hi, Builtin.lenOf, Builtin.firstCells, storeCells, loadCells, loadCellsFrom]
  · obtain ⟨ad, rfl, hc⟩ := hsrc hm
    obtain ⟨v', w', hr, ho, hg⟩ := run_append_arg_grows (P := P) w t ty e i z size bytes ht hi hz hsize hby hzs hsz b 0 0 [] (by simp) (fun j u hj => by simp at hj) ad m c news hl hc (by omega) (by omega) (by rw [Nat.zero_add]; exact hbytes)
    rw [Nat.zero_add] at ho
    obtain ⟨hl', h0 | ⟨g, cap, cur, rfl, hrest⟩⟩ := ho
    · omega
    · exact ⟨_, cap, w', hr, below_of_grown hg (fun k hk => by cases hk) (Nat.le_refl _), .inr ⟨hm, hl', .inr ⟨g, cap, cur, rfl, hrest⟩⟩⟩

/-- As one step of a region that draws. -/
theorem step_app_new {P : Program} {ops : Array Oper} {o : Oper} {a : Act} {w : World} {K : Act → World → Prop} {Q : Exit → Act → World → Prop} {E : Prop}
    (hg : o.guard = none) (s x : Operand) (t : TypeId) (hop : o.op = Op.call { callee := Callee.builtin Builtin.append, args := #[s, x], argTypes := #[t, t] })
    (e : TypeId) (i : TypeInfo) (z : Value) (size bytes : Nat) (ht : P.underlying t = some (.slice e)) (hi : P.info? e = some i) (hz : i.zero = some z)
    (hsize : i.size = size) (hby : i.bytes = bytes) (hzs : z.cells.size = size) (hsz : 0 < size) (b : Addr) (hs : a.eval s = .slice (some b) 0 0)
    (A : Option Addr) (m c : Nat) (news : List Value) (hx : a.eval x = .slice A m c) (hl : news.length = m * size) (hsrc : 0 < m → ∃ ad, A = some ad ∧ ∀ j u, news[j]? = some u → w.cell? (ad.add j) = some u)
    (h63 : m ≤ maxLen) (hbytes : m * bytes ≤ 140737488355328)
    (hK : ∀ A' cap w', Below w.heap.size w w' → Hid (m = 0 ∧ A' = some b ∧ cap = 0 ∧ w' = w ∨ 0 < m ∧ w'.ownsRow w.heap.size e size (.slice A' m cap) m news) → K (a.put o.dst (.slice A' m cap)) w') :
    if Region.wanted o (yielded ops a.tmps) = true then Oper.wp P o a w K Q else E := by
  have hw : Region.wanted o (yielded ops a.tmps) = true := by simp [Region.wanted, hg]
  rw [if_pos hw]
  obtain ⟨A', cap, w', hr, h2, h3⟩ := run_app_new (P := P) w t o.type e i z size bytes ht hi hz hsize hby hzs hsz b A m c news hl hsrc h63 hbytes
  unfold Oper.wp execOp
  simp only [hop, resolve, invoke, builtin, Sem.run_bind, Sem.run_pure, Result.andThen_ok, List.map_toArray, List.map_cons, List.map_nil, hs, hx, hr]
  exact hK A' cap w' h2 (Lib.hid h3)

/-- As one operation of a plain region. -/
theorem wpList_app_new {P : Program} {ops : Array Oper} {rest : List Oper} {o : Oper} {a : Act} {w : World} {Q : Exit → Act → World → Prop}
    (hg : o.guard = none) (s x : Operand) (t : TypeId) (hop : o.op = Op.call { callee := Callee.builtin Builtin.append, args := #[s, x], argTypes := #[t, t] })
    (e : TypeId) (i : TypeInfo) (z : Value) (size bytes : Nat) (ht : P.underlying t = some (.slice e)) (hi : P.info? e = some i) (hz : i.zero = some z)
    (hsize : i.size = size) (hby : i.bytes = bytes) (hzs : z.cells.size = size) (hsz : 0 < size) (b : Addr) (hs : a.eval s = .slice (some b) 0 0)
    (A : Option Addr) (m c : Nat) (news : List Value) (hx : a.eval x = .slice A m c) (hl : news.length = m * size) (hsrc : 0 < m → ∃ ad, A = some ad ∧ ∀ j u, news[j]? = some u → w.cell? (ad.add j) = some u)
    (h63 : m ≤ maxLen) (hbytes : m * bytes ≤ 140737488355328)
    (h : ∀ A' cap w', Below w.heap.size w w' → Hid (m = 0 ∧ A' = some b ∧ cap = 0 ∧ w' = w ∨ 0 < m ∧ w'.ownsRow w.heap.size e size (.slice A' m cap) m news) → wpList P ops Q rest (a.put o.dst (.slice A' m cap)) w') : wpList P ops Q (o :: rest) a w :=
  wpList_plain hg fun _ hK => by
    obtain ⟨A', cap, w', hr, h2, h3⟩ := run_app_new (P := P) w t o.type e i z size bytes ht hi hz hsize hby hzs hsz b A m c news hl hsrc h63 hbytes
    unfold Oper.wp execOp
    simp only [hop, resolve, invoke, builtin, Sem.run_bind, Sem.run_pure, Result.andThen_ok, List.map_toArray, List.map_cons, List.map_nil, hs, hx, hr]
    exact hK _ _ (h A' cap w' h2 (Lib.hid h3))

theorem srcS {w W : World} {A : Option Addr} {ss : List ByteArray} {n : Nat} (hl : ss.length = n) (h : StrL w A ss) (hb : Below w.heap.size w W) : 0 < n → ∃ ad, A = some ad ∧ ∀ j u, (cellsS ss)[j]? = some u → W.cell? (ad.add j) = some u := fun hn => (h.below hb).src (by rw [cellsS_len]; omega)
theorem srcW {w W : World} {A : Option Addr} {ws : List (Int × ByteArray)} {n : Nat} (hl : ws.length = n) (h : WrL w A ws) (hb : Below w.heap.size w W) : 0 < n → ∃ ad, A = some ad ∧ ∀ j u, (cellsW ws)[j]? = some u → W.cell? (ad.add j) = some u := fun hn => (h.below hb).src (by omega)
theorem ownS_new {w w' : World} {b : Addr} {A' : Option Addr} {n cap : Nat} {ss : List ByteArray} (hl : ss.length = n) (h : n = 0 ∧ A' = some b ∧ cap = 0 ∧ w' = w ∨ 0 < n ∧ w'.ownsRow w.heap.size 9 1 (.slice A' n cap) n (cellsS ss)) : OwnS w' w.heap.size w'.heap.size A' ss := by
  rcases h with ⟨h0, _⟩ | ⟨hn, h⟩
  · exact .inl (List.eq_nil_of_length_eq_zero (by omega))
  · obtain ⟨g, cap', m, f, hv, q1, q2, q3, q4, q5⟩ := row_of_own h hn
    injection hv with hv _ _
    subst hv
    exact .inr ⟨g, m, f, rfl, q1, q4.lt, by omega, q4, fun i hi => q5 i (by omega)⟩
theorem ownW_new {w w' : World} {b : Addr} {A' : Option Addr} {n cap : Nat} {ws : List (Int × ByteArray)} (hl : ws.length = n) (h : n = 0 ∧ A' = some b ∧ cap = 0 ∧ w' = w ∨ 0 < n ∧ w'.ownsRow w.heap.size 90 2 (.slice A' n cap) n (cellsW ws)) : OwnW w' w.heap.size w'.heap.size A' ws := by
  rcases h with ⟨h0, _⟩ | ⟨hn, h⟩
  · exact .inl (List.eq_nil_of_length_eq_zero (by omega))
  · obtain ⟨g, cap', hv, q1, q2, q3, q4⟩ := ownW_of_owns h hn
    injection hv with hv _ _
    subst hv
    exact q4 _ _ q1 q2

set_option maxRecDepth 100000 in
set_option maxHeartbeats 4000000 in
theorem l01Own (A C : Option Addr) (n c m d : Nat) (ss : List ByteArray) (ws : List (Int × ByteArray)) (w : World) (hl : ss.length = n) (hm : ws.length = m) (hn : n ≤ 1048577) (hmm : m ≤ 1048577) (h : StrL w A ss) (g : WrL w C ws) :
    Calls Try.prog 121 #[.agg #[.slice A n c, .slice C m d]] w (GivesDisk ss ws w) := by
  have HL := Lib.hid (And.intro hl hm)
  have HSs := Lib.hid (fun W (hb : Below w.heap.size w W) => srcS hl h hb)
  have HSw := Lib.hid (fun W (hb : Below w.heap.size w W) => srcW hm g hb)
  have HCs : Hid ((cellsS ss).length = n * 1) := Lib.hid (by rw [cellsS_len]; omega)
  have HCw : Hid ((cellsW ws).length = m * 2) := Lib.hid (by rw [cellsW_len]; omega)
  clear hl hm h g
  obtain ⟨i0, hi0, hz0, hz1, hz2⟩ := infoSx
  have HI := Lib.hid (And.intro hi0 (And.intro hz0 (And.intro hz1 hz2)))
  clear hi0 hz0 hz1 hz2
  obtain ⟨i1, hi0, hz0, hz1, hz2⟩ := infoWx
  have HJ := Lib.hid (And.intro hi0 (And.intro hz0 (And.intro hz1 hz2)))
  clear hi0 hz0 hz1 hz2
  obtain ⟨W0, hW0⟩ : ∃ W0, W0 = ((w.alloc (.cells #[.slice A n c, .slice C m d] 26)).alloc (.cells #[.slice none 0 0, .slice none 0 0] 26)) := ⟨_, rfl⟩
  have hb0 : Below w.heap.size w W0 := by rw [hW0]; exact bt (alloc_below _ _) (alloc_below _ _)
  have X0 : Box W0 w.heap.size 26 #[.slice A n c, .slice C m d] := by rw [hW0]; exact (Box.new _ _ _).alloc _
  have Y0 : Box W0 (w.heap.size + 1) 26 #[.slice none 0 0, .slice none 0 0] := by rw [hW0]; simpa using Box.new (w.alloc (.cells #[.slice A n c, .slice C m d] 26)) 26 #[.slice none 0 0, .slice none 0 0]
  have HK : Hid (∀ W, Below W0.heap.size W0 W → W.cell? ⟨w.heap.size, 0, none⟩ = some (.slice A n c) ∧ W.cell? ⟨w.heap.size, 1, none⟩ = some (.slice C m d)) := Lib.hid (fun W hb => ⟨(X0.step hb).cell 0 rfl, (X0.step hb).cell 1 rfl⟩)
  have HKs : Hid (∀ W u v, Below W0.heap.size W0 W → ((W.setCell ⟨w.heap.size + 1, 0, none⟩ u).setCell ⟨w.heap.size + 1, 1, none⟩ v).cell? ⟨w.heap.size, 0, none⟩ = some (.slice A n c) ∧ ((W.setCell ⟨w.heap.size + 1, 0, none⟩ u).setCell ⟨w.heap.size + 1, 1, none⟩ v).cell? ⟨w.heap.size, 1, none⟩ = some (.slice C m d)) := Lib.hid (fun W u v hb => by
    have hX := ((X0.step hb).far (p := ⟨w.heap.size + 1, 0, none⟩) (by show w.heap.size ≠ w.heap.size + 1; omega) u).far (p := ⟨w.heap.size + 1, 1, none⟩) (by show w.heap.size ≠ w.heap.size + 1; omega) v
    exact ⟨hX.cell 0 rfl, hX.cell 1 rfl⟩)
  have HKy : Hid (∀ W, Below W0.heap.size W0 W → W.cell? ⟨w.heap.size + 1, 0, none⟩ = some (.slice none 0 0) ∧ W.cell? ⟨w.heap.size + 1, 1, none⟩ = some (.slice none 0 0) ∧ W.frozen? ⟨w.heap.size + 1, 0, none⟩ = false ∧ W.frozen? ⟨w.heap.size + 1, 1, none⟩ = false) := Lib.hid (fun W hb => ⟨(Y0.step hb).cell 0 rfl, (Y0.step hb).cell 1 rfl, (Y0.step hb).frozen 0, (Y0.step hb).frozen 1⟩)
  have HYl : Hid (w.heap.size + 1 < W0.heap.size) := Lib.hid Y0.lt
  have HB0 := Lib.hid hb0
  have h6 : Below W0.heap.size W0 W0.drew := (Below.refl _ _).drew
  have HW0 := Lib.hid hW0
  clear hW0 X0 Y0 hb0
  go_enter Try.func121, Try.ntmps121
  go_wp2
  rw [← HW0.out]
  clear HW0
  go_region_held3 (fun W => W.cell? ⟨w.heap.size, 0, none⟩ = some (.slice A n c) ∧ W.cell? ⟨w.heap.size, 1, none⟩ = some (.slice C m d))
    (first | exact HK.out _ h6 | exact HK.out _ (Below.drew (alloc_below W0 _)) | exact HK.out _ (Below.drew (bt (alloc_below W0 _) (alloc_below _ _))) | exact HK.out _ ka | exact HK.out _ (bt ka (alloc_below _ _)) | exact HK.out _ kb | exact HKs.out _ _ _ kb)
    (first | (refine step_app_new rfl (.tmp 3) (.tmp 5) 23 rfl 9 i0 (.string ByteArray.empty) 1 16 Try.underlying23 HI.out.1 HI.out.2.1 HI.out.2.2.1 HI.out.2.2.2 rfl (by decide) ⟨W0.heap.size, 0, none⟩ ?_ A n c (cellsS ss) ?_ ?_ ?_ ?_ ?_ ?_; simp [Act.eval]; simp [Act.eval]; exact HCs.out; exact HSs.out _ (bt HB0.out (Below.drew (alloc_below W0 _))); (unfold maxLen; omega); omega; intro Aa ca wa hba Oa; have ka := bt (Below.drew (alloc_below W0 _)) hba; have OSa := Lib.hid ((ownS_new HL.out.1 Oa.out).wide (Below.size (Below.drew (alloc_below W0 _))) (Nat.le_refl _)); clear Oa hba) | (refine step_app_new rfl (.tmp 3) (.tmp 5) 23 rfl 9 i0 (.string ByteArray.empty) 1 16 Try.underlying23 HI.out.1 HI.out.2.1 HI.out.2.2.1 HI.out.2.2.2 rfl (by decide) ⟨W0.heap.size, 0, none⟩ ?_ A n c (cellsS ss) ?_ ?_ ?_ ?_ ?_ ?_; simp [Act.eval]; simp [Act.eval]; exact HCs.out; exact HSs.out _ (bt HB0.out (Below.drew (bt (alloc_below W0 _) (alloc_below _ _)))); (unfold maxLen; omega); omega; intro Aa ca wa hba Oa; have ka := bt (Below.drew (bt (alloc_below W0 _) (alloc_below _ _))) hba; have OSa := Lib.hid ((ownS_new HL.out.1 Oa.out).wide (Below.size (Below.drew (bt (alloc_below W0 _) (alloc_below _ _)))) (Nat.le_refl _)); clear Oa hba) | (refine step_app_new rfl (.tmp 3) (.tmp 5) 23 rfl 9 i0 (.string ByteArray.empty) 1 16 Try.underlying23 HI.out.1 HI.out.2.1 HI.out.2.2.1 HI.out.2.2.2 rfl (by decide) ⟨W0.heap.size + 1, 0, none⟩ ?_ A n c (cellsS ss) ?_ ?_ ?_ ?_ ?_ ?_; simp [Act.eval]; simp [Act.eval]; exact HCs.out; exact HSs.out _ (bt HB0.out (Below.drew (bt (alloc_below W0 _) (alloc_below _ _)))); (unfold maxLen; omega); omega; intro Aa ca wa hba Oa; have ka := bt (Below.drew (bt (alloc_below W0 _) (alloc_below _ _))) hba; have OSa := Lib.hid ((ownS_new HL.out.1 Oa.out).wide (Below.size (Below.drew (bt (alloc_below W0 _) (alloc_below _ _)))) (Nat.le_refl _)); clear Oa hba) | (refine step_app_new rfl (.tmp 7) (.tmp 9) 24 rfl 90 i1 (.agg #[.int .i64 0, .string ByteArray.empty]) 2 24 Try.underlying24 HJ.out.1 HJ.out.2.1 HJ.out.2.2.1 HJ.out.2.2.2 rfl (by decide) ⟨wa.heap.size, 0, none⟩ ?_ C m d (cellsW ws) ?_ ?_ ?_ ?_ ?_ ?_; simp [Act.eval]; simp [Act.eval]; exact HCw.out; exact HSw.out _ (bt HB0.out (bt ka (alloc_below _ _))); (unfold maxLen; omega); omega; intro Ab cb wb hbb Ob; have kb := bt (bt ka (alloc_below _ _)) hbb; have kab : Below wa.heap.size wa wb := bt (alloc_below _ _) hbb; have OWb := Lib.hid ((ownW_new HL.out.2 Ob.out).wide (Below.size (bt ka (alloc_below _ _))) (Nat.le_refl _)); have OSb := Lib.hid ((OSa.out.btw (Btw.of_below kab 0 0) (.inr (Nat.zero_le _))).wide (Nat.le_refl _) kab.size); clear Ob hbb kab OSa; obtain ⟨y0, y1, y2, y3⟩ := HKy.out _ kb) | (refine step_app_new rfl (.tmp 7) (.tmp 9) 24 rfl 90 i1 (.agg #[.int .i64 0, .string ByteArray.empty]) 2 24 Try.underlying24 HJ.out.1 HJ.out.2.1 HJ.out.2.2.1 HJ.out.2.2.2 rfl (by decide) ⟨W0.heap.size + 1, 0, none⟩ ?_ C m d (cellsW ws) ?_ ?_ ?_ ?_ ?_ ?_; simp [Act.eval]; simp [Act.eval]; exact HCw.out; exact HSw.out _ (bt HB0.out ka); (unfold maxLen; omega); omega; intro Ab cb wb hbb Ob; have kb := bt ka hbb; have kab : Below wa.heap.size wa wb := hbb; have OWb := Lib.hid ((ownW_new HL.out.2 Ob.out).wide (Below.size ka) (Nat.le_refl _)); have OSb := Lib.hid ((OSa.out.btw (Btw.of_below kab 0 0) (.inr (Nat.zero_le _))).wide (Nat.le_refl _) kab.size); clear Ob hbb kab OSa; obtain ⟨y0, y1, y2, y3⟩ := HKy.out _ kb) | (refine step_app_new rfl (.tmp 7) (.tmp 9) 24 rfl 90 i1 (.agg #[.int .i64 0, .string ByteArray.empty]) 2 24 Try.underlying24 HJ.out.1 HJ.out.2.1 HJ.out.2.2.1 HJ.out.2.2.2 rfl (by decide) ⟨W0.heap.size, 0, none⟩ ?_ C m d (cellsW ws) ?_ ?_ ?_ ?_ ?_ ?_; simp [Act.eval]; simp [Act.eval]; exact HCw.out; exact HSw.out _ (bt HB0.out ka); (unfold maxLen; omega); omega; intro Ab cb wb hbb Ob; have kb := bt ka hbb; have kab : Below wa.heap.size wa wb := hbb; have OWb := Lib.hid ((ownW_new HL.out.2 Ob.out).wide (Below.size ka) (Nat.le_refl _)); have OSb := Lib.hid ((OSa.out.btw (Btw.of_below kab 0 0) (.inr (Nat.zero_le _))).wide (Nat.le_refl _) kab.size); clear Ob hbb kab OSa; obtain ⟨y0, y1, y2, y3⟩ := HKy.out _ kb))
  all_goals (go_wp2)
  all_goals (
    refine bodyPost_ret (v := .agg #[.slice Aa n ca, .slice Ab m cb]) (by simp [results, Try.results121, go_sem, y0, y1]) rfl ?_
    exact ⟨_, _, _, _, _, _, rfl, Lib.hid HL.out.1, Lib.hid HL.out.2, Lib.hid (own_stored2 (by have := HYl.out; omega) (by have := HYl.out; omega) OSb.out), Lib.hid (ownW_stored2 (by have := HYl.out; omega) (by have := HYl.out; omega) OWb.out), below_stored (bt HB0.out kb)⟩)
end Go.Proofs.Ytoogaaoknpfkoaa
