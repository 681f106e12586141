/- The builtin copy at writes (two cells each); contract of clone. -/
import Derived.Test.YtoogaaoknpfkoaaSettle
import Derived.Test.YtoogaaoknpfkoaaMark
import Derived.Test.YtoogaaoknpfkoaaBoxDisk
import Derived.Laws.IdiomCopy
namespace Go.Proofs.Ytoogaaoknpfkoaa
open Go.RowKit

/-- The cells of a slice of writes. -/
def cellsW (ws : List (Int × ByteArray)) : List Value := ws.flatMap fun x => [.int .i64 x.1, .string x.2]
theorem cellsW_len (ws : List (Int × ByteArray)) : (cellsW ws).length = ws.length * 2 := by
  unfold cellsW
  induction ws with
  | nil => rfl
  | cons x r ih => rw [List.flatMap_cons, List.length_append, ih, List.length_cons]; simp; omega
theorem cellsW_at (ws : List (Int × ByteArray)) (i : Nat) (h : i < ws.length) : (cellsW ws)[i * 2]? = some (.int .i64 (ws.getD i (0, ByteArray.empty)).1) ∧ (cellsW ws)[i * 2 + 1]? = some (.string (ws.getD i (0, ByteArray.empty)).2) := by
  unfold cellsW
  induction ws generalizing i with
  | nil => simp at h
  | cons x r ih =>
    rw [List.flatMap_cons]
    cases i with
    | zero => simp
    | succ i =>
      have := ih i (by simpa using h)
      rw [show (i + 1) * 2 = i * 2 + 2 by omega, show i * 2 + 2 + 1 = (i * 2 + 1) + 2 by omega]
      rw [List.getElem?_append_right (by simp), List.getElem?_append_right (by simp)]
      simpa using this
theorem cellsW_one (ws : List (Int × ByteArray)) : ∀ v ∈ cellsW ws, v.oneCell' = true := fun v hv => by
  unfold cellsW at hv
  obtain ⟨x, _, hx⟩ := List.mem_flatMap.1 hv
  simp at hx
  rcases hx with rfl | rfl <;> rfl
theorem cellsW_get (ws : List (Int × ByteArray)) (j : Nat) (v : Value) (h : (cellsW ws)[j]? = some v) : j / 2 < ws.length ∧ (j % 2 = 0 → v = .int .i64 (ws.getD (j / 2) (0, ByteArray.empty)).1) ∧ (j % 2 = 1 → v = .string (ws.getD (j / 2) (0, ByteArray.empty)).2) := by
  have hj : j < ws.length * 2 := by have := (List.getElem?_eq_some_iff.1 h).1; rwa [cellsW_len] at this
  have hi : j / 2 < ws.length := by omega
  refine ⟨hi, fun e => ?_, fun e => ?_⟩
  · have := (cellsW_at ws (j / 2) hi).1
    rw [show j / 2 * 2 = j by omega, h] at this
    exact Option.some.inj this
  · have := (cellsW_at ws (j / 2) hi).2
    rw [show j / 2 * 2 + 1 = j by omega, h] at this
    exact Option.some.inj this
theorem WrL.src {w : World} {A : Option Addr} {ws : List (Int × ByteArray)} (h : WrL w A ws) (hp : 0 < ws.length) : ∃ ad, A = some ad ∧ ∀ j v, (cellsW ws)[j]? = some v → w.cell? (ad.add j) = some v := by
  obtain ⟨b, off, e, _⟩ := h 0 hp
  refine ⟨⟨b, off, none⟩, e, fun j v hj => ?_⟩
  obtain ⟨hi, e0, e1⟩ := cellsW_get ws j v hj
  obtain ⟨b', off', e', hc, hd⟩ := h (j / 2) hi
  rw [e] at e'
  injection e' with e'
  injection e' with q1 q2
  subst q1 q2
  have key : w.cell? ⟨b, off + j, none⟩ = some v := by
    have : j % 2 = 0 ∨ j % 2 = 1 := by omega
    rcases this with p | p
    · rw [e0 p, ← hc, show off + j / 2 * 2 = off + j by omega]
    · rw [e1 p, ← hd, show off + j / 2 * 2 + 1 = off + j by omega]
  rw [← key]
  unfold Addr.add
  by_cases h0 : j = 0
  · subst h0; simp
  · rw [if_neg h0]

theorem run_copy_wide {P : Program} (w : World) (dT sT ty elem : TypeId) (b o dLen dCap : Nat) (a : Addr) (sLen sCap size n : Nat) (cs : List Value)
    (hu : P.underlying dT = some (.slice elem)) (hs : (P.info? elem).map (·.size) = some size) (hn : Nat.min sLen dLen = n) (hcs : cs.length = n * size)
    (hsrc : ∀ j v, cs[j]? = some v → w.cell? (a.add j) = some v) (hc : ∀ j, j < cs.length → (w.cell? ⟨b, o + j, none⟩).isSome = true) (hf : ∀ j, j < cs.length → w.frozen? ⟨b, o + j, none⟩ = false) (h1 : ∀ v ∈ cs, v.oneCell' = true) :
    (Builtin.copy_ #[dT, sT] ty #[.slice (some ⟨b, o, none⟩) dLen dCap, .slice (some a) sLen sCap]).run P w = .ok (goInt n) (w.setCells b o cs) := by
  have hl := run_loadCells_list (P := P) w a cs hsrc
  have hst := run_storeCells_cells (P := P) b o cs 0 w (by simpa using hc) (by simpa using hf) h1
  cases hq : P.info? elem with
  | none => simp [hq] at hs
  | some i =>
    have hi : i.size = size := by simpa [hq] using hs
    rw [hcs] at hl
    simp [Builtin.copy_, run_underlying hu, Builtin.lenOf, Builtin.firstCells, sizeOf, typeInfo, hq, hi, hn, hl, hst]
theorem row_setCells {b : Nat} {t : TypeId} {m : Nat} : ∀ (vs : List Value) (o : Nat) (w : World) (f : Nat → Value), w.rowIs b t m f → (w.setCells b o vs).rowIs b t m (fun j => if o ≤ j ∧ j < o + vs.length then vs.getD (j - o) undef else f j)
  | [], o, _, f, h => h.congr (fun j _ => by rw [if_neg (by simp only [List.length_nil]; omega)])
  | v :: vs, o, w, f, h => by
    have := row_setCells vs (o + 1) (w.setCell ⟨b, o, none⟩ v) _ (h.set o v)
    refine this.congr (fun j _ => ?_)
    simp only [List.length_cons]
    by_cases e : j = o
    · subst e
      rw [if_neg (by omega), if_pos rfl, if_pos (by omega), Nat.sub_self]; rfl
    · by_cases e2 : o + 1 ≤ j ∧ j < o + 1 + vs.length
      · rw [if_pos e2, if_pos (by omega), show j - o = (j - (o + 1)) + 1 by omega]; rfl
      · rw [if_neg e2, if_neg e, if_neg (by omega)]
theorem below_setCells {B b : Nat} {a : World} (hB : B ≤ b) : ∀ (vs : List Value) (o : Nat) (w : World), Below B a w → Below B a (w.setCells b o vs)
  | [], _, _, h => h
  | v :: vs, o, _, h => below_setCells hB vs (o + 1) _ (h.setCell hB v)

set_option maxRecDepth 100000 in
theorem szW : (Try.prog.info? 90).map (·.size) = some 2 := by kernel_rfl

theorem fill_of_cells (ws : List (Int × ByteArray)) (j : Nat) (h : j < ws.length * 2) : (cellsW ws).getD j undef = fillW ws ws.length j := by
  obtain ⟨v, hv⟩ : ∃ v, (cellsW ws)[j]? = some v := ⟨_, List.getElem?_eq_getElem (by rw [cellsW_len]; exact h)⟩
  obtain ⟨_, e0, e1⟩ := cellsW_get ws j v hv
  rw [List.getD_eq_getElem?_getD, hv]
  show v = _
  unfold fillW
  rw [if_pos h]
  have : j % 2 = 0 ∨ j % 2 = 1 := by omega
  rcases this with p | p
  · rw [if_pos p, e0 p]
  · rw [if_neg (by omega), e1 p]

theorem run_copy_zero {P : Program} (w : World) (dT sT ty elem : TypeId) (d a : Option Addr) (dLen dCap sLen sCap size : Nat) (hu : P.underlying dT = some (.slice elem)) (hs : (P.info? elem).map (·.size) = some size) (hn : Nat.min sLen dLen = 0) :
    (Builtin.copy_ #[dT, sT] ty #[.slice d dLen dCap, .slice a sLen sCap]).run P w = .ok (goInt 0) w := by
  cases hq : P.info? elem with
  | none => simp [hq] at hs
  | some i =>
    have hl : ∀ (x : Addr), (loadCells x 0).run P w = .ok #[] w := fun x => by simpa using run_loadCells_list (P := P) w x [] (by simp)
    cases d <;> cases a <;> simp [Builtin.copy_, run_underlying hu, Builtin.lenOf, Builtin.firstCells, sizeOf, typeInfo, hq, hn, storeCells, hl]

/-- copy of n writes into a row of the call's own, just as long. -/
theorem wpList_copy_writes {P : Program} {w : World} {ops : Array Oper} {rest : List Oper} {o : Oper} {a : Act} {Q : Exit → Act → World → Prop} (hgd : o.guard = none) (d s : Operand) (dT sT : TypeId)
    (ho : o.op = .call { callee := .builtin .copy, args := #[d, s], argTypes := #[dT, sT] }) (elem : TypeId) (hu : P.underlying dT = some (.slice elem)) (hsz : (P.info? elem).map (·.size) = some 2)
    (g n : Nat) (sp : Option Addr) (sCap : Nat) (hd : a.eval d = .slice (some ⟨g, 0, none⟩) n n) (hs : a.eval s = .slice sp n sCap)
    (t : TypeId) (f : Nat → Value) (ws : List (Int × ByteArray)) (hl : ws.length = n) (hg : w.rowIs g t (n * 2) f) (hsrc : WrL w sp ws) (B : Nat) (w0 : World) (hb : Below B w0 w) (hBg : B ≤ g)
    (h : ∀ w', Hid (w'.rowIs g t (n * 2) (fillW ws n)) → Below B w0 w' → wpList P ops Q rest (a.put o.dst (goInt n)) w') :
    wpList P ops Q (o :: rest) a w := by
  refine wpList_plain hgd fun K hK => ?_
  subst hl
  by_cases h0 : ws.length = 0
  · have hrun := run_copy_zero (P := P) w dT sT o.type elem (some ⟨g, 0, none⟩) sp ws.length ws.length ws.length sCap 2 hu hsz (by rw [h0]; rfl)
    unfold Oper.wp
    simp [execOp, ho, resolve, invoke, builtin, hd, hs, hrun, Result.andThen]
    have := h w (show Hid _ from hg.congr (fun j hj => by omega)) hb
    rw [h0] at this
    exact hK _ _ this
  · obtain ⟨ad, rfl, hsr⟩ := hsrc.src (by omega)
    have hrun := run_copy_wide (P := P) w dT sT o.type elem g 0 ws.length ws.length ad ws.length sCap 2 ws.length (cellsW ws) hu hsz (by exact Nat.min_self _) (cellsW_len ws) hsr
      (fun j hj => by rw [Nat.zero_add, hg.cell (by rw [cellsW_len] at hj; exact hj)]; rfl) (fun j _ => by rw [Nat.zero_add]; exact hg.frozen j) (cellsW_one ws)
    unfold Oper.wp
    simp [execOp, ho, resolve, invoke, builtin, hd, hs, hrun, Result.andThen]
    refine hK _ _ (h _ (show Hid _ from (row_setCells (cellsW ws) 0 w f hg).congr (fun j hj => ?_)) (below_setCells hBg _ _ _ hb))
    rw [if_pos (by rw [cellsW_len]; omega), Nat.sub_zero]
    exact fill_of_cells ws j hj

set_option maxRecDepth 100000 in
set_option maxHeartbeats 2000000 in
theorem clone (A C : Option Addr) (n c m d : Nat) (ss : List ByteArray) (ws : List (Int × ByteArray)) (w : World) (hl : ss.length = n) (hm : ws.length = m) (hn : n ≤ 1048576) (hmm : m ≤ 1048576) (h : StrL w A ss) (g : WrL w C ws) :
    Calls Try.prog 80 #[.agg #[.slice A n c, .slice C m d]] w fun e w' => ∃ b b', e = .returned (.agg #[.slice (some ⟨b, 0, none⟩) n n, .slice (some ⟨b', 0, none⟩) m m]) ∧ Hid (w.heap.size + 1 < b ∧ w.heap.size + 1 < b' ∧ w'.rowIs b 9 n (fun i => .string (ss.getD i ByteArray.empty)) ∧ w'.rowIs b' 90 (m * 2) (fillW ws m)) ∧ Below w.heap.size w w' := by
  have hmk := make_writes m hmm
  obtain ⟨W0, hW0⟩ : ∃ W0, W0 = (((w.alloc (.cells #[.slice A n c, .slice C m d] 26)).alloc (.cells #[.slice none 0 0, .slice none 0 0] 26)).alloc (.cells (madeCells #[.int .i64 0, .string ByteArray.empty] (m * 2)) 90)) := ⟨_, rfl⟩
  have hb0 : Below w.heap.size w W0 := by rw [hW0]; exact (((Below.refl _ _).alloc (Nat.le_refl _) _).alloc (by simp) _).alloc (by simp; omega) _
  have X0 : Box W0 w.heap.size 26 #[.slice A n c, .slice C m d] := by rw [hW0]; exact ((Box.new _ _ _).alloc _).alloc _
  have Y0 : Box W0 (w.heap.size + 1) 26 #[.slice none 0 0, .slice none 0 0] := by rw [hW0]; simpa using (Box.new (w.alloc (.cells #[.slice A n c, .slice C m d] 26)) 26 #[.slice none 0 0, .slice none 0 0]).alloc (.cells (madeCells #[.int .i64 0, .string ByteArray.empty] (m * 2)) 90)
  have R0 : W0.rowIs (w.heap.size + 1 + 1) 90 (m * 2) (fun i => if i % 2 = 0 then .int .i64 0 else .string ByteArray.empty) := by
    have := row_made2 ((w.alloc (.cells #[.slice A n c, .slice C m d] 26)).alloc (.cells #[.slice none 0 0, .slice none 0 0] 26)) (.int .i64 0) (.string ByteArray.empty) m 90
    rw [← hW0, World.size_alloc, World.size_alloc] at this
    exact this
  have hwr := g.below hb0
  have hk0 : Below (w.heap.size + 1 + 1) W0 W0 := Below.refl _ _
  have HH := Lib.hid (And.intro R0 (And.intro hwr (And.intro hk0 (And.intro hm hl))))
  have HX := Lib.hid (And.intro X0 Y0)
  have HW0 := Lib.hid hW0
  have HSec := Lib.hid (fun W (hb : Below w.heap.size w W) => sectors A C n c m d ss W hl hn (h.below hb))
  clear hl hm h g R0 hwr X0 Y0 hW0 hk0
  go_enter Try.func80, Try.ntmps80
  go_wp2_with (with_reducible refine wpList_copy_writes rfl (.tmp 8) (.tmp 10) 24 24 rfl 90 Try.underlying24 szW (w.heap.size + 1 + 1) m _ d rfl rfl 90 (fun i => if i % 2 = 0 then .int .i64 0 else .string ByteArray.empty) ws HH.out.2.2.2.1 ?h1 ?h2 (w.heap.size + 1 + 1) W0 ?h3 (Nat.le_refl _) ?_)
  case h1 => rw [← HW0.out]; exact HH.out.1
  case h2 => rw [← HW0.out]; exact HH.out.2.1
  case h3 => rw [← HW0.out]; exact HH.out.2.2.1
  intro w1 R1 hb1
  have X1 := HX.out.1.below hb1 (by omega)
  have Y1 := Lib.hid (HX.out.2.below hb1 (by omega))
  have hb1' : Below w.heap.size w w1 := hb0.trans (hb1.mono (by omega))
  have f0 : w1.cell? ⟨w.heap.size, 0, none⟩ = some (.slice A n c) := X1.cell 0 rfl
  have f1 : w1.cell? ⟨w.heap.size, 1, none⟩ = some (.slice C m d) := X1.cell 1 rfl
  have HS1 : Hid (w.heap.size + 1 + 1 < w1.heap.size) := Lib.hid R1.out.lt
  clear X1 hmk HH HX HW0 hb0 hb1
  go_wp2_with fail
  refine (HSec.out w1 hb1').mono ?_
  rintro e w2 ⟨rfl, hb2, R2⟩
  have Y2 := Y1.out.step hb2
  have R12 := Lib.hid (row_below hb2 R1.out R1.out.lt)
  have g0 := Y2.cell 0 rfl
  have g1 := Y2.cell 1 rfl
  have g2 := Y2.frozen 0
  have g3 := Y2.frozen 1
  clear Y2 f0 f1
  go_wp2
  refine bodyPost_ret (v := .agg #[.slice (some ⟨w1.heap.size + 1, 0, none⟩) n n, .slice (some ⟨w.heap.size + 1 + 1, 0, none⟩) m m]) (by simp [results, Try.results80, go_sem, g0, g1]) rfl ?_
  refine ⟨w1.heap.size + 1, w.heap.size + 1 + 1, rfl, Lib.hid ⟨by have := HS1.out; omega, by omega, ?_, ?_⟩, ((bt hb1' hb2).setCell (by show w.heap.size ≤ w.heap.size + 1; omega) _).setCell (by show w.heap.size ≤ w.heap.size + 1; omega) _⟩
  · exact (R2.out.setOther (by show w1.heap.size + 1 ≠ w.heap.size + 1; have := HS1.out; omega) _).setOther (by show w1.heap.size + 1 ≠ w.heap.size + 1; have := HS1.out; omega) _
  · exact (R12.out.setOther (by show w.heap.size + 1 + 1 ≠ w.heap.size + 1; omega) _).setOther (by show w.heap.size + 1 + 1 ≠ w.heap.size + 1; omega) _
end Go.Proofs.Ytoogaaoknpfkoaa
