/- Texts of this claim, one behind the other: Clone, FlushDisk, CrashDisk, WriteImpl, OwnSpec, DrawPages, Fates. -/
import Derived.Test.YtcchhbkbnbphhaaSettle
import Derived.Laws.IdiomCopy
import Derived.OwnWalk
import Derived.Deep.RegionLaw
import Derived.Deep.RegionHeld3
import Derived.Test.YtcchhbkbnbphhaaM4
/- The builtin copy at writes (two cells each); contract of clone. -/
namespace Go.Proofs.Ytcchhbkbnbphhaa
open Go.RowKit

def cellsW (ws : List (Int × ByteArray)) : List Value := ws.flatMap fun x => [.int .i64 x.1, .string x.2]
theorem cellsW_len (ws : List (Int × ByteArray)) : (cellsW ws).length = ws.length * 2 := by
  unfold cellsW
  induction ws with
  | nil => rfl
  | cons x r ih => rw [List.flatMap_cons, List.length_append, ih, List.length_cons]; simp; omega
theorem cellsW_at (ws : List (Int × ByteArray)) (i : Nat) (h : i < ws.length) : (cellsW ws)[i * 2]? = some (.int .i64 (ws.getD i (0, ByteArray.empty)).1) ∧ (cellsW ws)[i * 2 + 1]? = some (.string (ws.getD i (0, ByteArray.empty)).2) := by
  unfold cellsW
  induction ws generalizing i with
  | nil => simp at h
  | cons x r ih =>
    rw [List.flatMap_cons]
    cases i with
    | zero => simp
    | succ i =>
      have := ih i (by simpa using h)
      rw [show (i + 1) * 2 = i * 2 + 2 by omega, show i * 2 + 2 + 1 = (i * 2 + 1) + 2 by omega]
      rw [List.getElem?_append_right (by simp), List.getElem?_append_right (by simp)]
      simpa using this
theorem cellsW_one (ws : List (Int × ByteArray)) : ∀ v ∈ cellsW ws, v.oneCell' = true := fun v hv => by
  unfold cellsW at hv
  obtain ⟨x, _, hx⟩ := List.mem_flatMap.1 hv
  simp at hx
  rcases hx with rfl | rfl <;> rfl
theorem cellsW_get (ws : List (Int × ByteArray)) (j : Nat) (v : Value) (h : (cellsW ws)[j]? = some v) : j / 2 < ws.length ∧ (j % 2 = 0 → v = .int .i64 (ws.getD (j / 2) (0, ByteArray.empty)).1) ∧ (j % 2 = 1 → v = .string (ws.getD (j / 2) (0, ByteArray.empty)).2) := by
  have hj : j < ws.length * 2 := by have := (List.getElem?_eq_some_iff.1 h).1; rwa [cellsW_len] at this
  have hi : j / 2 < ws.length := by omega
  refine ⟨hi, fun e => ?_, fun e => ?_⟩
  · have := (cellsW_at ws (j / 2) hi).1
    rw [show j / 2 * 2 = j by omega, h] at this
    exact Option.some.inj this
  · have := (cellsW_at ws (j / 2) hi).2
    rw [show j / 2 * 2 + 1 = j by omega, h] at this
    exact Option.some.inj this
theorem WrL.src {w : World} {A : Option Addr} {ws : List (Int × ByteArray)} (h : WrL w A ws) (hp : 0 < ws.length) : ∃ ad, A = some ad ∧ ∀ j v, (cellsW ws)[j]? = some v → w.cell? (ad.add j) = some v := by
  obtain ⟨b, off, e, _⟩ := h 0 hp
  refine ⟨⟨b, off, none⟩, e, fun j v hj => ?_⟩
  obtain ⟨hi, e0, e1⟩ := cellsW_get ws j v hj
  obtain ⟨b', off', e', hc, hd⟩ := h (j / 2) hi
  rw [e] at e'
  injection e' with e'
  injection e' with q1 q2
  subst q1 q2
  have key : w.cell? ⟨b, off + j, none⟩ = some v := by
    have : j % 2 = 0 ∨ j % 2 = 1 := by omega
    rcases this with p | p
    · rw [e0 p, ← hc, show off + j / 2 * 2 = off + j by omega]
    · rw [e1 p, ← hd, show off + j / 2 * 2 + 1 = off + j by omega]
  rw [← key]
  unfold Addr.add
  by_cases h0 : j = 0
  · subst h0; simp
  · rw [if_neg h0]

theorem run_copy_wide {P : Program} (w : World) (dT sT ty elem : TypeId) (b o dLen dCap : Nat) (a : Addr) (sLen sCap size n : Nat) (cs : List Value)
    (hu : P.underlying dT = some (.slice elem)) (hs : (P.info? elem).map (·.size) = some size) (hn : Nat.min sLen dLen = n) (hcs : cs.length = n * size)
    (hsrc : ∀ j v, cs[j]? = some v → w.cell? (a.add j) = some v) (hc : ∀ j, j < cs.length → (w.cell? ⟨b, o + j, none⟩).isSome = true) (hf : ∀ j, j < cs.length → w.frozen? ⟨b, o + j, none⟩ = false) (h1 : ∀ v ∈ cs, v.oneCell' = true) :
    (Builtin.copy_ #[dT, sT] ty #[.slice (some ⟨b, o, none⟩) dLen dCap, .slice (some a) sLen sCap]).run P w = .ok (goInt n) (w.setCells b o cs) := by
  have hl := run_loadCells_list (P := P) w a cs hsrc
  have hst := run_storeCells_cells (P := P) b o cs 0 w (by simpa using hc) (by simpa using hf) h1
  cases hq : P.info? elem with
  | none => simp [hq] at hs
  | some i =>
    have hi : i.size = size := by simpa [hq] using hs
    rw [hcs] at hl
    simp [Builtin.copy_, run_underlying hu, Builtin.lenOf, Builtin.firstCells, sizeOf, typeInfo, hq, hi, hn, hl, hst]
theorem row_setCells {b : Nat} {t : TypeId} {m : Nat} : ∀ (vs : List Value) (o : Nat) (w : World) (f : Nat → Value), w.rowIs b t m f → (w.setCells b o vs).rowIs b t m (fun j => if o ≤ j ∧ j < o + vs.length then vs.getD (j - o) undef else f j)
  | [], o, _, f, h => h.congr (fun j _ => by rw [if_neg (by simp only [List.length_nil]; omega)])
  | v :: vs, o, w, f, h => by
    have := row_setCells vs (o + 1) (w.setCell ⟨b, o, none⟩ v) _ (h.set o v)
    refine this.congr (fun j _ => ?_)
    simp only [List.length_cons]
    by_cases e : j = o
    · subst e
      rw [if_neg (by omega), if_pos rfl, if_pos (by omega), Nat.sub_self]; rfl
    · by_cases e2 : o + 1 ≤ j ∧ j < o + 1 + vs.length
      · rw [if_pos e2, if_pos (by omega), show j - o = (j - (o + 1)) + 1 by omega]; rfl
      · rw [if_neg e2, if_neg e, if_neg (by omega)]
theorem below_setCells {B b : Nat} {a : World} (hB : B ≤ b) : ∀ (vs : List Value) (o : Nat) (w : World), Below B a w → Below B a (w.setCells b o vs)
  | [], _, _, h => h
  | v :: vs, o, _, h => below_setCells hB vs (o + 1) _ (h.setCell hB v)

set_option maxRecDepth 100000 in
theorem szW : (Try.prog.info? 67).map (·.size) = some 2 := by kernel_rfl

theorem fill_of_cells (ws : List (Int × ByteArray)) (j : Nat) (h : j < ws.length * 2) : (cellsW ws).getD j undef = fillW ws ws.length j := by
  obtain ⟨v, hv⟩ : ∃ v, (cellsW ws)[j]? = some v := ⟨_, List.getElem?_eq_getElem (by rw [cellsW_len]; exact h)⟩
  obtain ⟨_, e0, e1⟩ := cellsW_get ws j v hv
  rw [List.getD_eq_getElem?_getD, hv]
  show v = _
  unfold fillW
  rw [if_pos h]
  have : j % 2 = 0 ∨ j % 2 = 1 := by omega
  rcases this with p | p
  · rw [if_pos p, e0 p]
  · rw [if_neg (by omega), e1 p]

theorem run_copy_zero {P : Program} (w : World) (dT sT ty elem : TypeId) (d a : Option Addr) (dLen dCap sLen sCap size : Nat) (hu : P.underlying dT = some (.slice elem)) (hs : (P.info? elem).map (·.size) = some size) (hn : Nat.min sLen dLen = 0) :
    (Builtin.copy_ #[dT, sT] ty #[.slice d dLen dCap, .slice a sLen sCap]).run P w = .ok (goInt 0) w := by
  cases hq : P.info? elem with
  | none => simp [hq] at hs
  | some i =>
    have hl : ∀ (x : Addr), (loadCells x 0).run P w = .ok #[] w := fun x => by simpa using run_loadCells_list (P := P) w x [] (by simp)
    cases d <;> cases a <;> simp [Builtin.copy_, run_underlying hu, Builtin.lenOf, Builtin.firstCells, sizeOf, typeInfo, hq, hn, storeCells, hl]

theorem wpList_copy_writes {P : Program} {w : World} {ops : Array Oper} {rest : List Oper} {o : Oper} {a : Act} {Q : Exit → Act → World → Prop} (hgd : o.guard = none) (d s : Operand) (dT sT : TypeId)
    (ho : o.op = .call { callee := .builtin .copy, args := #[d, s], argTypes := #[dT, sT] }) (elem : TypeId) (hu : P.underlying dT = some (.slice elem)) (hsz : (P.info? elem).map (·.size) = some 2)
    (g n : Nat) (sp : Option Addr) (sCap : Nat) (hd : a.eval d = .slice (some ⟨g, 0, none⟩) n n) (hs : a.eval s = .slice sp n sCap)
    (t : TypeId) (f : Nat → Value) (ws : List (Int × ByteArray)) (hl : ws.length = n) (hg : w.rowIs g t (n * 2) f) (hsrc : WrL w sp ws) (B : Nat) (w0 : World) (hb : Below B w0 w) (hBg : B ≤ g)
    (h : ∀ w', Hid (w'.rowIs g t (n * 2) (fillW ws n)) → Below B w0 w' → wpList P ops Q rest (a.put o.dst (goInt n)) w') :
    wpList P ops Q (o :: rest) a w := by
  refine wpList_plain hgd fun K hK => ?_
  subst hl
  by_cases h0 : ws.length = 0
  · have hrun := run_copy_zero (P := P) w dT sT o.type elem (some ⟨g, 0, none⟩) sp ws.length ws.length ws.length sCap 2 hu hsz (by rw [h0]; rfl)
    unfold Oper.wp
    simp [execOp, ho, resolve, invoke, builtin, hd, hs, hrun, Result.andThen]
    have := h w (show Hid _ from hg.congr (fun j hj => by omega)) hb
    rw [h0] at this
    exact hK _ _ this
  · obtain ⟨ad, rfl, hsr⟩ := hsrc.src (by omega)
    have hrun := run_copy_wide (P := P) w dT sT o.type elem g 0 ws.length ws.length ad ws.length sCap 2 ws.length (cellsW ws) hu hsz (by exact Nat.min_self _) (cellsW_len ws) hsr
      (fun j hj => by rw [Nat.zero_add, hg.cell (by rw [cellsW_len] at hj; exact hj)]; rfl) (fun j _ => by rw [Nat.zero_add]; exact hg.frozen j) (cellsW_one ws)
    unfold Oper.wp
    simp [execOp, ho, resolve, invoke, builtin, hd, hs, hrun, Result.andThen]
    refine hK _ _ (h _ (show Hid _ from (row_setCells (cellsW ws) 0 w f hg).congr (fun j hj => ?_)) (below_setCells hBg _ _ _ hb))
    rw [if_pos (by rw [cellsW_len]; omega), Nat.sub_zero]
    exact fill_of_cells ws j hj

set_option maxRecDepth 100000 in
set_option maxHeartbeats 2000000 in
theorem clone (A C : Option Addr) (n c m d : Nat) (ss : List ByteArray) (ws : List (Int × ByteArray)) (w : World) (hl : ss.length = n) (hm : ws.length = m) (hn : n ≤ 1048576) (hmm : m ≤ 1048576) (h : StrL w A ss) (g : WrL w C ws) :
    Calls Try.prog 33 #[.agg #[.slice A n c, .slice C m d]] w fun e w' => ∃ b b', e = .returned (.agg #[.slice (some ⟨b, 0, none⟩) n n, .slice (some ⟨b', 0, none⟩) m m]) ∧ Hid (w.heap.size + 1 < b ∧ w.heap.size + 1 < b' ∧ w'.rowIs b 9 n (fun i => .string (ss.getD i ByteArray.empty)) ∧ w'.rowIs b' 67 (m * 2) (fillW ws m)) ∧ Below w.heap.size w w' := by
  have hmk := make_writes m hmm
  obtain ⟨W0, hW0⟩ : ∃ W0, W0 = (((w.alloc (.cells #[.slice A n c, .slice C m d] 26)).alloc (.cells #[.slice none 0 0, .slice none 0 0] 26)).alloc (.cells (madeCells #[.int .i64 0, .string ByteArray.empty] (m * 2)) 67)) := ⟨_, rfl⟩
  have hb0 : Below w.heap.size w W0 := by rw [hW0]; exact (((Below.refl _ _).alloc (Nat.le_refl _) _).alloc (by simp) _).alloc (by simp; omega) _
  have X0 : Box W0 w.heap.size 26 #[.slice A n c, .slice C m d] := by rw [hW0]; exact ((Box.new _ _ _).alloc _).alloc _
  have Y0 : Box W0 (w.heap.size + 1) 26 #[.slice none 0 0, .slice none 0 0] := by rw [hW0]; simpa using (Box.new (w.alloc (.cells #[.slice A n c, .slice C m d] 26)) 26 #[.slice none 0 0, .slice none 0 0]).alloc (.cells (madeCells #[.int .i64 0, .string ByteArray.empty] (m * 2)) 67)
  have R0 : W0.rowIs (w.heap.size + 1 + 1) 67 (m * 2) (fun i => if i % 2 = 0 then .int .i64 0 else .string ByteArray.empty) := by
    have := row_made2 ((w.alloc (.cells #[.slice A n c, .slice C m d] 26)).alloc (.cells #[.slice none 0 0, .slice none 0 0] 26)) (.int .i64 0) (.string ByteArray.empty) m 67
    rw [← hW0, World.size_alloc, World.size_alloc] at this
    exact this
  have hwr := g.below hb0
  have hk0 : Below (w.heap.size + 1 + 1) W0 W0 := Below.refl _ _
  have HH := Lib.hid (And.intro R0 (And.intro hwr (And.intro hk0 (And.intro hm hl))))
  have HX := Lib.hid (And.intro X0 Y0)
  have HW0 := Lib.hid hW0
  have HSec := Lib.hid (fun W (hb : Below w.heap.size w W) => sectors A C n c m d ss W hl hn (h.below hb))
  clear hl hm h g R0 hwr X0 Y0 hW0 hk0
  go_enter Try.func33, Try.ntmps33
  go_wp2_with (with_reducible refine wpList_copy_writes rfl (.tmp 8) (.tmp 10) 24 24 rfl 67 Try.underlying24 szW (w.heap.size + 1 + 1) m _ d rfl rfl 67 (fun i => if i % 2 = 0 then .int .i64 0 else .string ByteArray.empty) ws HH.out.2.2.2.1 ?h1 ?h2 (w.heap.size + 1 + 1) W0 ?h3 (Nat.le_refl _) ?_)
  case h1 => rw [← HW0.out]; exact HH.out.1
  case h2 => rw [← HW0.out]; exact HH.out.2.1
  case h3 => rw [← HW0.out]; exact HH.out.2.2.1
  intro w1 R1 hb1
  have X1 := HX.out.1.below hb1 (by omega)
  have Y1 := Lib.hid (HX.out.2.below hb1 (by omega))
  have hb1' : Below w.heap.size w w1 := hb0.trans (hb1.mono (by omega))
  have f0 : w1.cell? ⟨w.heap.size, 0, none⟩ = some (.slice A n c) := X1.cell 0 rfl
  have f1 : w1.cell? ⟨w.heap.size, 1, none⟩ = some (.slice C m d) := X1.cell 1 rfl
  have HS1 : Hid (w.heap.size + 1 + 1 < w1.heap.size) := Lib.hid R1.out.lt
  clear X1 hmk HH HX HW0 hb0 hb1
  go_wp2_with fail
  refine (HSec.out w1 hb1').mono ?_
  rintro e w2 ⟨rfl, hb2, R2⟩
  have Y2 := Y1.out.step hb2
  have R12 := Lib.hid (row_below hb2 R1.out R1.out.lt)
  have g0 := Y2.cell 0 rfl
  have g1 := Y2.cell 1 rfl
  have g2 := Y2.frozen 0
  have g3 := Y2.frozen 1
  clear Y2 f0 f1
  go_wp2
  refine bodyPost_ret (v := .agg #[.slice (some ⟨w1.heap.size + 1, 0, none⟩) n n, .slice (some ⟨w.heap.size + 1 + 1, 0, none⟩) m m]) (by simp [results, Try.results33, go_sem, g0, g1]) rfl ?_
  refine ⟨w1.heap.size + 1, w.heap.size + 1 + 1, rfl, Lib.hid ⟨by have := HS1.out; omega, by omega, ?_, ?_⟩, ((bt hb1' hb2).setCell (by show w.heap.size ≤ w.heap.size + 1; omega) _).setCell (by show w.heap.size ≤ w.heap.size + 1; omega) _⟩
  · exact (R2.out.setOther (by show w1.heap.size + 1 ≠ w.heap.size + 1; have := HS1.out; omega) _).setOther (by show w1.heap.size + 1 ≠ w.heap.size + 1; have := HS1.out; omega) _
  · exact (R12.out.setOther (by show w.heap.size + 1 + 1 ≠ w.heap.size + 1; omega) _).setOther (by show w.heap.size + 1 + 1 ≠ w.heap.size + 1; omega) _
end Go.Proofs.Ytcchhbkbnbphhaa

/- Contracts of both FlushDisk. -/
namespace Go.Proofs.Ytcchhbkbnbphhaa
open Go.RowKit

theorem gives_none {w w' : World} {code : Int} (hb : Below w.heap.size w w') : GivesDiskCode [] [] code w (.returned (.tuple #[.agg #[.slice none 0 0, .slice none 0 0], .int .i64 code])) w' :=
  ⟨none, 0, 0, none, 0, 0, rfl, Lib.hid rfl, Lib.hid rfl, Lib.hid (.inl rfl), Lib.hid (.inl rfl), hb⟩

end Go.Proofs.Ytcchhbkbnbphhaa

/- Contracts of both CrashDisk. -/
namespace Go.Proofs.Ytcchhbkbnbphhaa
open Go.RowKit

def fateB (z : Int) : Bool := decide (0 ≤ z ∧ z ≤ 2)
def okF (fs : List Int) : Bool := fs.all fateB

theorem own_stored {w w1 w2 : World} {A2 C2 : Option Addr} {n2 c2 m2 d2 : Nat} {rs : List ByteArray} (hb : Below w.heap.size w w1) (hy : w.heap.size + 1 < w1.heap.size) (S2 : OwnS w2 w1.heap.size w2.heap.size A2 rs) :
    OwnS ((w2.setCell ⟨w.heap.size + 1, 0, none⟩ (.slice A2 n2 c2)).setCell ⟨w.heap.size + 1, 1, none⟩ (.slice C2 m2 d2)) w.heap.size ((w2.setCell ⟨w.heap.size + 1, 0, none⟩ (.slice A2 n2 c2)).setCell ⟨w.heap.size + 1, 1, none⟩ (.slice C2 m2 d2)).heap.size A2 rs := by
  have e1 : (((w2.setCell ⟨w.heap.size + 1, 0, none⟩ (.slice A2 n2 c2)).setCell ⟨w.heap.size + 1, 1, none⟩ (.slice C2 m2 d2)).heap.size) = w2.heap.size := by simp [World.setCell]
  have k1 : Btw (w.heap.size + 1) (w.heap.size + 1 + 1) w2 ((w2.setCell ⟨w.heap.size + 1, 0, none⟩ (.slice A2 n2 c2)).setCell ⟨w.heap.size + 1, 1, none⟩ (.slice C2 m2 d2)) :=
    ((Btw.refl _ _ _).setCell (by show w.heap.size + 1 ≤ w.heap.size + 1; omega) (by show w.heap.size + 1 < w.heap.size + 1 + 1; omega) _).setCell (by show w.heap.size + 1 ≤ w.heap.size + 1; omega) (by show w.heap.size + 1 < w.heap.size + 1 + 1; omega) _
  rw [e1]
  exact (S2.btw k1 (.inr (by omega))).wide hb.size (Nat.le_refl _)
theorem below_stored {w w2 : World} {u v : Value} (hb : Below w.heap.size w w2) : Below w.heap.size w ((w2.setCell ⟨w.heap.size + 1, 0, none⟩ u).setCell ⟨w.heap.size + 1, 1, none⟩ v) :=
  (hb.setCell (by show w.heap.size ≤ w.heap.size + 1; omega) _).setCell (by show w.heap.size ≤ w.heap.size + 1; omega) _

end Go.Proofs.Ytcchhbkbnbphhaa

/- Contract of impl.WriteDisk. -/
namespace Go.Proofs.Ytcchhbkbnbphhaa
open Go.RowKit

theorem ownW_of_owns {w : World} {base n : Nat} {v : Value} {ws : List (Int × ByteArray)} (h : w.ownsRow base 67 2 v n (cellsW ws)) (hn : 0 < n) : ∃ g cap, v = .slice (some ⟨g, 0, none⟩) n cap ∧ base ≤ g ∧ g < w.heap.size ∧ ws.length = n ∧ ∀ lo hi, lo ≤ g → g < hi → OwnW w lo hi (some ⟨g, 0, none⟩) ws := by
  obtain ⟨hl, h0 | ⟨g, cap, cur, rfl, hb, hg, hnc, _, hsz, htk⟩⟩ := h
  · omega
  · rw [cellsW_len] at hl
    have hln : ws.length = n := by omega
    have hr : w.rowIs g 67 (cap * 2) (fun i => cur.toList.getD i undef) := ⟨cur, hg, hsz, fun i hi => by
      have : i < cur.toList.length := by simp [hsz, hi]
      show cur[i]? = some (cur.toList.getD i undef)
      rw [List.getD_eq_getElem?_getD, List.getElem?_eq_getElem this, ← Array.getElem?_toList, List.getElem?_eq_getElem this]
      rfl⟩
    refine ⟨g, cap, rfl, hb, hr.lt, hln, fun lo hi h1 h2 => .inr ⟨g, cap * 2, _, rfl, h1, h2, by omega, hr, fun i hi => ?_⟩⟩
    have key : ∀ j, j < n * 2 → cur.toList.getD j undef = (cellsW ws).getD j undef := fun j hj => by
      have h1 : (cur.toList.take (n * 2))[j]? = (cellsW ws)[j]? := by rw [htk]
      rw [List.getElem?_take, if_pos hj] at h1
      rw [List.getD_eq_getElem?_getD, h1, List.getD_eq_getElem?_getD]
    have q := cellsW_at ws i hi
    show cur.toList.getD (i * 2) undef = _ ∧ cur.toList.getD (i * 2 + 1) undef = _
    have k1 : (cellsW ws).getD (i * 2) undef = .int .i64 (ws.getD i (0, ByteArray.empty)).1 := by rw [List.getD_eq_getElem?_getD (l := cellsW ws), q.1]; rfl
    have k2 : (cellsW ws).getD (i * 2 + 1) undef = .string (ws.getD i (0, ByteArray.empty)).2 := by rw [List.getD_eq_getElem?_getD (l := cellsW ws), q.2]; rfl
    rw [key _ (by omega), key _ (by omega), k1, k2]
    exact ⟨rfl, rfl⟩
theorem cellsW_snoc (ws : List (Int × ByteArray)) (a : Int) (t : ByteArray) : cellsW ws ++ [.int .i64 a, .string t] = cellsW (ws ++ [(a, t)]) := by
  unfold cellsW; rw [List.flatMap_append]; rfl
set_option maxRecDepth 100000 in
theorem infoWx : ∃ i : TypeInfo, Try.prog.info? 67 = some i ∧ i.zero = some (.agg #[.int .i64 0, .string ByteArray.empty]) ∧ i.size = 2 ∧ i.bytes = 24 := by
  obtain ⟨i, hi, hzz⟩ := Option.map_eq_some_iff.1 infoW
  simp only [Prod.mk.injEq] at hzz
  exact ⟨i, hi, hzz.1, hzz.2.1, hzz.2.2⟩

theorem own_stored2 {w w2 : World} {A2 C2 : Option Addr} {n2 c2 m2 d2 b : Nat} {rs : List ByteArray} (h1 : w.heap.size ≤ b) (h2 : w.heap.size + 1 < b) (S2 : OwnS w2 b w2.heap.size A2 rs) :
    OwnS ((w2.setCell ⟨w.heap.size + 1, 0, none⟩ (.slice A2 n2 c2)).setCell ⟨w.heap.size + 1, 1, none⟩ (.slice C2 m2 d2)) w.heap.size ((w2.setCell ⟨w.heap.size + 1, 0, none⟩ (.slice A2 n2 c2)).setCell ⟨w.heap.size + 1, 1, none⟩ (.slice C2 m2 d2)).heap.size A2 rs := by
  have e1 : (((w2.setCell ⟨w.heap.size + 1, 0, none⟩ (.slice A2 n2 c2)).setCell ⟨w.heap.size + 1, 1, none⟩ (.slice C2 m2 d2)).heap.size) = w2.heap.size := by simp [World.setCell]
  have k1 : Btw (w.heap.size + 1) (w.heap.size + 1 + 1) w2 ((w2.setCell ⟨w.heap.size + 1, 0, none⟩ (.slice A2 n2 c2)).setCell ⟨w.heap.size + 1, 1, none⟩ (.slice C2 m2 d2)) :=
    ((Btw.refl _ _ _).setCell (by show w.heap.size + 1 ≤ w.heap.size + 1; omega) (by show w.heap.size + 1 < w.heap.size + 1 + 1; omega) _).setCell (by show w.heap.size + 1 ≤ w.heap.size + 1; omega) (by show w.heap.size + 1 < w.heap.size + 1 + 1; omega) _
  rw [e1]
  exact (S2.btw k1 (.inr (by omega))).wide h1 (Nat.le_refl _)
theorem ownW_stored2 {w w2 : World} {A2 C2 : Option Addr} {n2 c2 m2 d2 b : Nat} {rw' : List (Int × ByteArray)} (h1 : w.heap.size ≤ b) (h2 : w.heap.size + 1 < b) (S2 : OwnW w2 b w2.heap.size C2 rw') :
    OwnW ((w2.setCell ⟨w.heap.size + 1, 0, none⟩ (.slice A2 n2 c2)).setCell ⟨w.heap.size + 1, 1, none⟩ (.slice C2 m2 d2)) w.heap.size ((w2.setCell ⟨w.heap.size + 1, 0, none⟩ (.slice A2 n2 c2)).setCell ⟨w.heap.size + 1, 1, none⟩ (.slice C2 m2 d2)).heap.size C2 rw' := by
  have e1 : (((w2.setCell ⟨w.heap.size + 1, 0, none⟩ (.slice A2 n2 c2)).setCell ⟨w.heap.size + 1, 1, none⟩ (.slice C2 m2 d2)).heap.size) = w2.heap.size := by simp [World.setCell]
  have k1 : Btw (w.heap.size + 1) (w.heap.size + 1 + 1) w2 ((w2.setCell ⟨w.heap.size + 1, 0, none⟩ (.slice A2 n2 c2)).setCell ⟨w.heap.size + 1, 1, none⟩ (.slice C2 m2 d2)) :=
    ((Btw.refl _ _ _).setCell (by show w.heap.size + 1 ≤ w.heap.size + 1; omega) (by show w.heap.size + 1 < w.heap.size + 1 + 1; omega) _).setCell (by show w.heap.size + 1 ≤ w.heap.size + 1; omega) (by show w.heap.size + 1 < w.heap.size + 1 + 1; omega) _
  rw [e1]
  exact (S2.btw k1 (.inr (by omega))).wide h1 (Nat.le_refl _)
theorem ownW_stored3 {w w2 : World} {A2 C2 : Option Addr} {n2 c2 m2 d2 gg : Nat} {rw' : List (Int × ByteArray)} (h1 : w.heap.size ≤ gg) (h2 : gg ≠ w.heap.size + 1) (h3 : gg < w2.heap.size) (S2 : OwnW w2 gg (gg + 1) C2 rw') :
    OwnW ((w2.setCell ⟨w.heap.size + 1, 0, none⟩ (.slice A2 n2 c2)).setCell ⟨w.heap.size + 1, 1, none⟩ (.slice C2 m2 d2)) w.heap.size ((w2.setCell ⟨w.heap.size + 1, 0, none⟩ (.slice A2 n2 c2)).setCell ⟨w.heap.size + 1, 1, none⟩ (.slice C2 m2 d2)).heap.size C2 rw' := by
  have e1 : (((w2.setCell ⟨w.heap.size + 1, 0, none⟩ (.slice A2 n2 c2)).setCell ⟨w.heap.size + 1, 1, none⟩ (.slice C2 m2 d2)).heap.size) = w2.heap.size := by simp [World.setCell]
  have k1 : Btw (w.heap.size + 1) (w.heap.size + 1 + 1) w2 ((w2.setCell ⟨w.heap.size + 1, 0, none⟩ (.slice A2 n2 c2)).setCell ⟨w.heap.size + 1, 1, none⟩ (.slice C2 m2 d2)) :=
    ((Btw.refl _ _ _).setCell (by show w.heap.size + 1 ≤ w.heap.size + 1; omega) (by show w.heap.size + 1 < w.heap.size + 1 + 1; omega) _).setCell (by show w.heap.size + 1 ≤ w.heap.size + 1; omega) (by show w.heap.size + 1 < w.heap.size + 1 + 1; omega) _
  rw [e1]
  exact (S2.btw k1 (by omega)).wide h1 (by omega)

end Go.Proofs.Ytcchhbkbnbphhaa

/- The model's own copy of a disk: l01Own. -/
namespace Go.Proofs.Ytcchhbkbnbphhaa
open Go.RowKit

theorem run_app_new {P : Program} (w : World) (t ty e : TypeId) (i : TypeInfo) (z : Value) (size bytes : Nat) (ht : P.underlying t = some (.slice e)) (hi : P.info? e = some i) (hz : i.zero = some z)
    (hsize : i.size = size) (hby : i.bytes = bytes) (hzs : z.cells.size = size) (hsz : 0 < size) (b : Addr)
    (A : Option Addr) (m c : Nat) (news : List Value) (hl : news.length = m * size) (hsrc : 0 < m → ∃ ad, A = some ad ∧ ∀ j u, news[j]? = some u → w.cell? (ad.add j) = some u)
    (h63 : m ≤ maxLen) (hbytes : m * bytes ≤ 140737488355328) :
    ∃ A' cap w', (Builtin.append_ #[t, t] ty #[.slice (some b) 0 0, .slice A m c]).run P w = .ok (.slice A' m cap) w' ∧ Below w.heap.size w w' ∧ (m = 0 ∧ A' = some b ∧ cap = 0 ∧ w' = w ∨ 0 < m ∧ w'.ownsRow w.heap.size e size (.slice A' m cap) m news) := by
  rcases Nat.eq_zero_or_pos m with rfl | hm
  · refine ⟨some b, 0, w, ?_, Below.refl _ _, .inl ⟨rfl, rfl, rfl, rfl⟩⟩
    cases A <;> simp [Builtin.append_, run_underlying ht, sizeOf, typeInfo, hi, Builtin.lenOf, Builtin.firstCells, storeCells, loadCells, loadCellsFrom]
  · obtain ⟨ad, rfl, hc⟩ := hsrc hm
    obtain ⟨v', w', hr, ho, hg⟩ := run_append_arg_grows (P := P) w t ty e i z size bytes ht hi hz hsize hby hzs hsz b 0 0 [] (by simp) (fun j u hj => by simp at hj) ad m c news hl hc (by omega) (by omega) (by rw [Nat.zero_add]; exact hbytes)
    rw [Nat.zero_add] at ho
    obtain ⟨hl', h0 | ⟨g, cap, cur, rfl, hrest⟩⟩ := ho
    · omega
    · exact ⟨_, cap, w', hr, below_of_grown hg (fun k hk => by cases hk) (Nat.le_refl _), .inr ⟨hm, hl', .inr ⟨g, cap, cur, rfl, hrest⟩⟩⟩

theorem step_app_new {P : Program} {ops : Array Oper} {o : Oper} {a : Act} {w : World} {K : Act → World → Prop} {Q : Exit → Act → World → Prop} {E : Prop}
    (hg : o.guard = none) (s x : Operand) (t : TypeId) (hop : o.op = Op.call { callee := Callee.builtin Builtin.append, args := #[s, x], argTypes := #[t, t] })
    (e : TypeId) (i : TypeInfo) (z : Value) (size bytes : Nat) (ht : P.underlying t = some (.slice e)) (hi : P.info? e = some i) (hz : i.zero = some z)
    (hsize : i.size = size) (hby : i.bytes = bytes) (hzs : z.cells.size = size) (hsz : 0 < size) (b : Addr) (hs : a.eval s = .slice (some b) 0 0)
    (A : Option Addr) (m c : Nat) (news : List Value) (hx : a.eval x = .slice A m c) (hl : news.length = m * size) (hsrc : 0 < m → ∃ ad, A = some ad ∧ ∀ j u, news[j]? = some u → w.cell? (ad.add j) = some u)
    (h63 : m ≤ maxLen) (hbytes : m * bytes ≤ 140737488355328)
    (hK : ∀ A' cap w', Below w.heap.size w w' → Hid (m = 0 ∧ A' = some b ∧ cap = 0 ∧ w' = w ∨ 0 < m ∧ w'.ownsRow w.heap.size e size (.slice A' m cap) m news) → K (a.put o.dst (.slice A' m cap)) w') :
    if Region.wanted o (yielded ops a.tmps) = true then Oper.wp P o a w K Q else E := by
  have hw : Region.wanted o (yielded ops a.tmps) = true := by simp [Region.wanted, hg]
  rw [if_pos hw]
  obtain ⟨A', cap, w', hr, h2, h3⟩ := run_app_new (P := P) w t o.type e i z size bytes ht hi hz hsize hby hzs hsz b A m c news hl hsrc h63 hbytes
  unfold Oper.wp execOp
  simp only [hop, resolve, invoke, builtin, Sem.run_bind, Sem.run_pure, Result.andThen_ok, List.map_toArray, List.map_cons, List.map_nil, hs, hx, hr]
  exact hK A' cap w' h2 (Lib.hid h3)

theorem wpList_app_new {P : Program} {ops : Array Oper} {rest : List Oper} {o : Oper} {a : Act} {w : World} {Q : Exit → Act → World → Prop}
    (hg : o.guard = none) (s x : Operand) (t : TypeId) (hop : o.op = Op.call { callee := Callee.builtin Builtin.append, args := #[s, x], argTypes := #[t, t] })
    (e : TypeId) (i : TypeInfo) (z : Value) (size bytes : Nat) (ht : P.underlying t = some (.slice e)) (hi : P.info? e = some i) (hz : i.zero = some z)
    (hsize : i.size = size) (hby : i.bytes = bytes) (hzs : z.cells.size = size) (hsz : 0 < size) (b : Addr) (hs : a.eval s = .slice (some b) 0 0)
    (A : Option Addr) (m c : Nat) (news : List Value) (hx : a.eval x = .slice A m c) (hl : news.length = m * size) (hsrc : 0 < m → ∃ ad, A = some ad ∧ ∀ j u, news[j]? = some u → w.cell? (ad.add j) = some u)
    (h63 : m ≤ maxLen) (hbytes : m * bytes ≤ 140737488355328)
    (h : ∀ A' cap w', Below w.heap.size w w' → Hid (m = 0 ∧ A' = some b ∧ cap = 0 ∧ w' = w ∨ 0 < m ∧ w'.ownsRow w.heap.size e size (.slice A' m cap) m news) → wpList P ops Q rest (a.put o.dst (.slice A' m cap)) w') : wpList P ops Q (o :: rest) a w :=
  wpList_plain hg fun _ hK => by
    obtain ⟨A', cap, w', hr, h2, h3⟩ := run_app_new (P := P) w t o.type e i z size bytes ht hi hz hsize hby hzs hsz b A m c news hl hsrc h63 hbytes
    unfold Oper.wp execOp
    simp only [hop, resolve, invoke, builtin, Sem.run_bind, Sem.run_pure, Result.andThen_ok, List.map_toArray, List.map_cons, List.map_nil, hs, hx, hr]
    exact hK _ _ (h A' cap w' h2 (Lib.hid h3))

theorem srcS {w W : World} {A : Option Addr} {ss : List ByteArray} {n : Nat} (hl : ss.length = n) (h : StrL w A ss) (hb : Below w.heap.size w W) : 0 < n → ∃ ad, A = some ad ∧ ∀ j u, (cellsS ss)[j]? = some u → W.cell? (ad.add j) = some u := fun hn => (h.below hb).src (by rw [cellsS_len]; omega)
theorem srcW {w W : World} {A : Option Addr} {ws : List (Int × ByteArray)} {n : Nat} (hl : ws.length = n) (h : WrL w A ws) (hb : Below w.heap.size w W) : 0 < n → ∃ ad, A = some ad ∧ ∀ j u, (cellsW ws)[j]? = some u → W.cell? (ad.add j) = some u := fun hn => (h.below hb).src (by omega)
theorem ownS_new {w w' : World} {b : Addr} {A' : Option Addr} {n cap : Nat} {ss : List ByteArray} (hl : ss.length = n) (h : n = 0 ∧ A' = some b ∧ cap = 0 ∧ w' = w ∨ 0 < n ∧ w'.ownsRow w.heap.size 9 1 (.slice A' n cap) n (cellsS ss)) : OwnS w' w.heap.size w'.heap.size A' ss := by
  rcases h with ⟨h0, _⟩ | ⟨hn, h⟩
  · exact .inl (List.eq_nil_of_length_eq_zero (by omega))
  · obtain ⟨g, cap', m, f, hv, q1, q2, q3, q4, q5⟩ := row_of_own h hn
    injection hv with hv _ _
    subst hv
    exact .inr ⟨g, m, f, rfl, q1, q4.lt, by omega, q4, fun i hi => q5 i (by omega)⟩
theorem ownW_new {w w' : World} {b : Addr} {A' : Option Addr} {n cap : Nat} {ws : List (Int × ByteArray)} (hl : ws.length = n) (h : n = 0 ∧ A' = some b ∧ cap = 0 ∧ w' = w ∨ 0 < n ∧ w'.ownsRow w.heap.size 67 2 (.slice A' n cap) n (cellsW ws)) : OwnW w' w.heap.size w'.heap.size A' ws := by
  rcases h with ⟨h0, _⟩ | ⟨hn, h⟩
  · exact .inl (List.eq_nil_of_length_eq_zero (by omega))
  · obtain ⟨g, cap', hv, q1, q2, q3, q4⟩ := ownW_of_owns h hn
    injection hv with hv _ _
    subst hv
    exact q4 _ _ q1 q2

set_option maxRecDepth 100000 in
set_option maxHeartbeats 4000000 in
theorem l01Own (A C : Option Addr) (n c m d : Nat) (ss : List ByteArray) (ws : List (Int × ByteArray)) (w : World) (hl : ss.length = n) (hm : ws.length = m) (hn : n ≤ 1048577) (hmm : m ≤ 1048577) (h : StrL w A ss) (g : WrL w C ws) :
    Calls Try.prog 39 #[.agg #[.slice A n c, .slice C m d]] w (GivesDisk ss ws w) := by
  have HL := Lib.hid (And.intro hl hm)
  have HSs := Lib.hid (fun W (hb : Below w.heap.size w W) => srcS hl h hb)
  have HSw := Lib.hid (fun W (hb : Below w.heap.size w W) => srcW hm g hb)
  have HCs : Hid ((cellsS ss).length = n * 1) := Lib.hid (by rw [cellsS_len]; omega)
  have HCw : Hid ((cellsW ws).length = m * 2) := Lib.hid (by rw [cellsW_len]; omega)
  clear hl hm h g
  obtain ⟨i0, hi0, hz0, hz1, hz2⟩ := infoSx
  have HI := Lib.hid (And.intro hi0 (And.intro hz0 (And.intro hz1 hz2)))
  clear hi0 hz0 hz1 hz2
  obtain ⟨i1, hi0, hz0, hz1, hz2⟩ := infoWx
  have HJ := Lib.hid (And.intro hi0 (And.intro hz0 (And.intro hz1 hz2)))
  clear hi0 hz0 hz1 hz2
  obtain ⟨W0, hW0⟩ : ∃ W0, W0 = ((w.alloc (.cells #[.slice A n c, .slice C m d] 26)).alloc (.cells #[.slice none 0 0, .slice none 0 0] 26)) := ⟨_, rfl⟩
  have hb0 : Below w.heap.size w W0 := by rw [hW0]; exact bt (alloc_below _ _) (alloc_below _ _)
  have X0 : Box W0 w.heap.size 26 #[.slice A n c, .slice C m d] := by rw [hW0]; exact (Box.new _ _ _).alloc _
  have Y0 : Box W0 (w.heap.size + 1) 26 #[.slice none 0 0, .slice none 0 0] := by rw [hW0]; simpa using Box.new (w.alloc (.cells #[.slice A n c, .slice C m d] 26)) 26 #[.slice none 0 0, .slice none 0 0]
  have HK : Hid (∀ W, Below W0.heap.size W0 W → W.cell? ⟨w.heap.size, 0, none⟩ = some (.slice A n c) ∧ W.cell? ⟨w.heap.size, 1, none⟩ = some (.slice C m d)) := Lib.hid (fun W hb => ⟨(X0.step hb).cell 0 rfl, (X0.step hb).cell 1 rfl⟩)
  have HKs : Hid (∀ W u v, Below W0.heap.size W0 W → ((W.setCell ⟨w.heap.size + 1, 0, none⟩ u).setCell ⟨w.heap.size + 1, 1, none⟩ v).cell? ⟨w.heap.size, 0, none⟩ = some (.slice A n c) ∧ ((W.setCell ⟨w.heap.size + 1, 0, none⟩ u).setCell ⟨w.heap.size + 1, 1, none⟩ v).cell? ⟨w.heap.size, 1, none⟩ = some (.slice C m d)) := Lib.hid (fun W u v hb => by
    have hX := ((X0.step hb).far (p := ⟨w.heap.size + 1, 0, none⟩) (by show w.heap.size ≠ w.heap.size + 1; omega) u).far (p := ⟨w.heap.size + 1, 1, none⟩) (by show w.heap.size ≠ w.heap.size + 1; omega) v
    exact ⟨hX.cell 0 rfl, hX.cell 1 rfl⟩)
  have HKy : Hid (∀ W, Below W0.heap.size W0 W → W.cell? ⟨w.heap.size + 1, 0, none⟩ = some (.slice none 0 0) ∧ W.cell? ⟨w.heap.size + 1, 1, none⟩ = some (.slice none 0 0) ∧ W.frozen? ⟨w.heap.size + 1, 0, none⟩ = false ∧ W.frozen? ⟨w.heap.size + 1, 1, none⟩ = false) := Lib.hid (fun W hb => ⟨(Y0.step hb).cell 0 rfl, (Y0.step hb).cell 1 rfl, (Y0.step hb).frozen 0, (Y0.step hb).frozen 1⟩)
  have HYl : Hid (w.heap.size + 1 < W0.heap.size) := Lib.hid Y0.lt
  have HB0 := Lib.hid hb0
  have h6 : Below W0.heap.size W0 W0.drew := (Below.refl _ _).drew
  have HW0 := Lib.hid hW0
  clear hW0 X0 Y0 hb0
  go_enter Try.func39, Try.ntmps39
  go_wp2
  rw [← HW0.out]
  clear HW0
  go_region_held3 (fun W => W.cell? ⟨w.heap.size, 0, none⟩ = some (.slice A n c) ∧ W.cell? ⟨w.heap.size, 1, none⟩ = some (.slice C m d))
    (first | exact HK.out _ h6 | exact HK.out _ (Below.drew (alloc_below W0 _)) | exact HK.out _ (Below.drew (bt (alloc_below W0 _) (alloc_below _ _))) | exact HK.out _ ka | exact HK.out _ (bt ka (alloc_below _ _)) | exact HK.out _ kb | exact HKs.out _ _ _ kb)
    (first | (refine step_app_new rfl (.tmp 3) (.tmp 5) 23 rfl 9 i0 (.string ByteArray.empty) 1 16 Try.underlying23 HI.out.1 HI.out.2.1 HI.out.2.2.1 HI.out.2.2.2 rfl (by decide) ⟨W0.heap.size, 0, none⟩ ?_ A n c (cellsS ss) ?_ ?_ ?_ ?_ ?_ ?_; simp [Act.eval]; simp [Act.eval]; exact HCs.out; exact HSs.out _ (bt HB0.out (Below.drew (alloc_below W0 _))); (unfold maxLen; omega); omega; intro Aa ca wa hba Oa; have ka := bt (Below.drew (alloc_below W0 _)) hba; have OSa := Lib.hid ((ownS_new HL.out.1 Oa.out).wide (Below.size (Below.drew (alloc_below W0 _))) (Nat.le_refl _)); clear Oa hba) | (refine step_app_new rfl (.tmp 3) (.tmp 5) 23 rfl 9 i0 (.string ByteArray.empty) 1 16 Try.underlying23 HI.out.1 HI.out.2.1 HI.out.2.2.1 HI.out.2.2.2 rfl (by decide) ⟨W0.heap.size, 0, none⟩ ?_ A n c (cellsS ss) ?_ ?_ ?_ ?_ ?_ ?_; simp [Act.eval]; simp [Act.eval]; exact HCs.out; exact HSs.out _ (bt HB0.out (Below.drew (bt (alloc_below W0 _) (alloc_below _ _)))); (unfold maxLen; omega); omega; intro Aa ca wa hba Oa; have ka := bt (Below.drew (bt (alloc_below W0 _) (alloc_below _ _))) hba; have OSa := Lib.hid ((ownS_new HL.out.1 Oa.out).wide (Below.size (Below.drew (bt (alloc_below W0 _) (alloc_below _ _)))) (Nat.le_refl _)); clear Oa hba) | (refine step_app_new rfl (.tmp 3) (.tmp 5) 23 rfl 9 i0 (.string ByteArray.empty) 1 16 Try.underlying23 HI.out.1 HI.out.2.1 HI.out.2.2.1 HI.out.2.2.2 rfl (by decide) ⟨W0.heap.size + 1, 0, none⟩ ?_ A n c (cellsS ss) ?_ ?_ ?_ ?_ ?_ ?_; simp [Act.eval]; simp [Act.eval]; exact HCs.out; exact HSs.out _ (bt HB0.out (Below.drew (bt (alloc_below W0 _) (alloc_below _ _)))); (unfold maxLen; omega); omega; intro Aa ca wa hba Oa; have ka := bt (Below.drew (bt (alloc_below W0 _) (alloc_below _ _))) hba; have OSa := Lib.hid ((ownS_new HL.out.1 Oa.out).wide (Below.size (Below.drew (bt (alloc_below W0 _) (alloc_below _ _)))) (Nat.le_refl _)); clear Oa hba) | (refine step_app_new rfl (.tmp 7) (.tmp 9) 24 rfl 67 i1 (.agg #[.int .i64 0, .string ByteArray.empty]) 2 24 Try.underlying24 HJ.out.1 HJ.out.2.1 HJ.out.2.2.1 HJ.out.2.2.2 rfl (by decide) ⟨wa.heap.size, 0, none⟩ ?_ C m d (cellsW ws) ?_ ?_ ?_ ?_ ?_ ?_; simp [Act.eval]; simp [Act.eval]; exact HCw.out; exact HSw.out _ (bt HB0.out (bt ka (alloc_below _ _))); (unfold maxLen; omega); omega; intro Ab cb wb hbb Ob; have kb := bt (bt ka (alloc_below _ _)) hbb; have kab : Below wa.heap.size wa wb := bt (alloc_below _ _) hbb; have OWb := Lib.hid ((ownW_new HL.out.2 Ob.out).wide (Below.size (bt ka (alloc_below _ _))) (Nat.le_refl _)); have OSb := Lib.hid ((OSa.out.btw (Btw.of_below kab 0 0) (.inr (Nat.zero_le _))).wide (Nat.le_refl _) kab.size); clear Ob hbb kab OSa; obtain ⟨y0, y1, y2, y3⟩ := HKy.out _ kb) | (refine step_app_new rfl (.tmp 7) (.tmp 9) 24 rfl 67 i1 (.agg #[.int .i64 0, .string ByteArray.empty]) 2 24 Try.underlying24 HJ.out.1 HJ.out.2.1 HJ.out.2.2.1 HJ.out.2.2.2 rfl (by decide) ⟨W0.heap.size + 1, 0, none⟩ ?_ C m d (cellsW ws) ?_ ?_ ?_ ?_ ?_ ?_; simp [Act.eval]; simp [Act.eval]; exact HCw.out; exact HSw.out _ (bt HB0.out ka); (unfold maxLen; omega); omega; intro Ab cb wb hbb Ob; have kb := bt ka hbb; have kab : Below wa.heap.size wa wb := hbb; have OWb := Lib.hid ((ownW_new HL.out.2 Ob.out).wide (Below.size ka) (Nat.le_refl _)); have OSb := Lib.hid ((OSa.out.btw (Btw.of_below kab 0 0) (.inr (Nat.zero_le _))).wide (Nat.le_refl _) kab.size); clear Ob hbb kab OSa; obtain ⟨y0, y1, y2, y3⟩ := HKy.out _ kb) | (refine step_app_new rfl (.tmp 7) (.tmp 9) 24 rfl 67 i1 (.agg #[.int .i64 0, .string ByteArray.empty]) 2 24 Try.underlying24 HJ.out.1 HJ.out.2.1 HJ.out.2.2.1 HJ.out.2.2.2 rfl (by decide) ⟨W0.heap.size, 0, none⟩ ?_ C m d (cellsW ws) ?_ ?_ ?_ ?_ ?_ ?_; simp [Act.eval]; simp [Act.eval]; exact HCw.out; exact HSw.out _ (bt HB0.out ka); (unfold maxLen; omega); omega; intro Ab cb wb hbb Ob; have kb := bt ka hbb; have kab : Below wa.heap.size wa wb := hbb; have OWb := Lib.hid ((ownW_new HL.out.2 Ob.out).wide (Below.size ka) (Nat.le_refl _)); have OSb := Lib.hid ((OSa.out.btw (Btw.of_below kab 0 0) (.inr (Nat.zero_le _))).wide (Nat.le_refl _) kab.size); clear Ob hbb kab OSa; obtain ⟨y0, y1, y2, y3⟩ := HKy.out _ kb))
  all_goals (go_wp2)
  all_goals (
    refine bodyPost_ret (v := .agg #[.slice Aa n ca, .slice Ab m cb]) (by simp [results, Try.results39, go_sem, y0, y1]) rfl ?_
    exact ⟨_, _, _, _, _, _, rfl, Lib.hid HL.out.1, Lib.hid HL.out.2, Lib.hid (own_stored2 (by have := HYl.out; omega) (by have := HYl.out; omega) OSb.out), Lib.hid (ownW_stored2 (by have := HYl.out; omega) (by have := HYl.out; omega) OWb.out), below_stored (bt HB0.out kb)⟩)
end Go.Proofs.Ytcchhbkbnbphhaa

/- The model's source of draws: a text of its own letters, one of four texts, pages. -/
namespace Go.Proofs.Ytcchhbkbnbphhaa
open Go.RowKit

def someN (zs : List Nat) (k sd : Nat) : Nat → List Int × Nat × Nat
  | 0 => ([], k, sd)
  | N + 1 => ((someN zs k sd N).1 ++ [97 + (((byteV zs (someN zs k sd N).2.1 (someN zs k sd N).2.2).1 % 26 : Nat) : Int)], (byteV zs (someN zs k sd N).2.1 (someN zs k sd N).2.2).2.1, (byteV zs (someN zs k sd N).2.1 (someN zs k sd N).2.2).2.2)
theorem someN_len (zs : List Nat) (k sd : Nat) : ∀ N, (someN zs k sd N).1.length = N
  | 0 => rfl
  | N + 1 => by rw [someN, List.length_append, someN_len zs k sd N]; rfl
theorem someN_at (zs : List Nat) (k sd : Nat) : ∀ N, (someN zs k sd N).2.1 = k + N
  | 0 => rfl
  | N + 1 => by rw [someN]; simp only; rw [byteV_at, someN_at zs k sd N]; omega
set_option maxRecDepth 100000 in
set_option maxHeartbeats 4000000 in
theorem srcSomeX (N : Nat) (b : Nat) (A : Option Addr) (n c : Nat) (zs : List Nat) (k0 s0 : Nat) (w : World) (hN : N ≤ 1000) (hK : k0 ≤ 1000000) (h : SrcX w b A n c zs k0 s0) :
    Calls Try.prog 56 #[.pointer (some ⟨b, 0, none⟩), .int .i64 (N : Nat)] w fun e w' => e = .returned (.string (strOfNums (someN zs k0 s0 N).1)) ∧ Hid (SrcX w' b A n c zs (someN zs k0 s0 N).2.1 (someN zs k0 s0 N).2.2) ∧ Btw b (b + 1) w w' := by
  have hlt : b < w.heap.size := h.1.lt
  obtain ⟨i0, hi0, hz0, hz1, hz2⟩ := infoBy
  have HI := Lib.hid (And.intro hi0 (And.intro hz0 (And.intro hz1 hz2)))
  clear hi0 hz0 hz1 hz2
  have hb0 := alloc_below w (.cells #[] 5)
  have HS0 := Lib.hid (h.below hb0 hlt)
  have HB0 : Hid (Btw b (b + 1) w (w.alloc (.cells #[] 5))) := Lib.hid ((Btw.refl b (b + 1) w).alloc _)
  have HO0 := Lib.hid (owns_empty (base := w.heap.size) (Nat.le_refl _) (Box.new w 5 #[]))
  clear h hb0
  go_enter Try.func56, Try.ntmps56
  go_wp2
  generalize w.alloc (.cells #[] 5) = w0 at HS0 HB0 HO0 ⊢
  go_loopw [5, 6] (fun o q wr => ∃ (k g cap : Nat), k ≤ N ∧ o = .slice (some ⟨g, 0, none⟩) k cap ∧ q = .int .i64 k ∧ Hid (wr.ownsRow w.heap.size 5 1 (.slice (some ⟨g, 0, none⟩) k cap) k ((someN zs k0 s0 k).1.map (Value.int .u8))) ∧ Hid (SrcX wr b A n c zs (someN zs k0 s0 k).2.1 (someN zs k0 s0 k).2.2) ∧ Btw b (b + 1) w wr) (fun _ q _ => N - (intOf q).toNat)
  case atStart => exact ⟨0, _, _, Nat.zero_le _, rfl, rfl, HO0, HS0, HB0.out⟩
  case round =>
    obtain ⟨k, g, cap, hk, rfl, rfl, HO, HS, hbw⟩ := hrel
    have HL := Lib.hid (someN_len zs k0 s0 k)
    have hat := someN_at zs k0 s0 k
    by_cases hkn : k < N
    · have hi : (k : Int) < (N : Int) := by omega
      have HC := Lib.hid (srcNextX 26 b A n c zs _ _ wr (by omega) (by omega) (by omega) HS.out)
      have HN2 := Lib.hid (show someN zs k0 s0 (k + 1) = _ from rfl)
      rw [show someN zs k0 s0 (k + 1) = ((someN zs k0 s0 k).1 ++ [97 + (((byteV zs (someN zs k0 s0 k).2.1 (someN zs k0 s0 k).2.2).1 % 26 : Nat) : Int)], (byteV zs (someN zs k0 s0 k).2.1 (someN zs k0 s0 k).2.2).2.1, (byteV zs (someN zs k0 s0 k).2.1 (someN zs k0 s0 k).2.2).2.2) from rfl] at HN2
      clear HN2
      have HN2 : Hid (someN zs k0 s0 (k + 1) = ((someN zs k0 s0 k).1 ++ [97 + (((byteV zs (someN zs k0 s0 k).2.1 (someN zs k0 s0 k).2.2).1 % 26 : Nat) : Int)], (byteV zs (someN zs k0 s0 k).2.1 (someN zs k0 s0 k).2.2).2.1, (byteV zs (someN zs k0 s0 k).2.1 (someN zs k0 s0 k).2.2).2.2)) := Lib.hid rfl
      generalize someN zs k0 s0 k = sk at HO HS HC HN2 HL hat
      have hv : (byteV zs sk.2.1 sk.2.2).1 % 26 < 26 := Nat.mod_lt _ (by omega)
      generalize (byteV zs sk.2.1 sk.2.2).1 % 26 = v at HC HN2 hv
      generalize (byteV zs sk.2.1 sk.2.2).2.1 = k9 at HC HN2
      generalize (byteV zs sk.2.1 sk.2.2).2.2 = s9 at HC HN2
      obtain ⟨xs, kk, sd⟩ := sk
      simp only at HO HS HC HN2 HL hat
      go_wp2_with fail
      refine HC.out.mono ?_
      rintro e w1 ⟨rfl, S1, hb1⟩
      clear HC HS
      have HO1 := Lib.hid (owns_keep HO.out (fun j h1 h2 => hb1.block j h2 (.inr (by omega))))
      have HB1 := Lib.hid (hbw.trans hb1)
      have k2 := Lib.hid (alloc_below w1 (.cells #[.int .u8 (97 + (v : Int))] 5))
      have HOw := Lib.hid (owns_keep HO1.out (fun j _ h2 => k2.out.block j h2))
      have HNw : Hid (∀ j u, [Value.int .u8 (97 + (v : Int))][j]? = some u → (w1.alloc (.cells #[.int .u8 (97 + (v : Int))] 5)).cell? ((⟨w1.heap.size, 0, none⟩ : Addr).add j) = some u) := Lib.hid (fun j u hj => by
        have hB := Box.new w1 5 #[.int .u8 (97 + (v : Int))]
        match j, hj with
        | 0, hj => simp at hj; subst hj; exact hB.cell 0 rfl)
      have hw1 : w.heap.size ≤ w1.heap.size := HB1.out.size
      go_wp2_with (at_builtin; refine wpList_append_own _ rfl (.tmp 13) (.tmp 18) 22 rfl w.heap.size 5 i0 (.int .u8 0) 1 1 Try.underlying22 HI.out.1 HI.out.2.1 HI.out.2.2.1 HI.out.2.2.2 rfl (by decide) _ k (xs.map (Value.int .u8)) rfl ?hown ⟨w1.heap.size, 0, none⟩ 1 1 [.int .u8 (97 + (v : Int))] rfl rfl ?hnews ?hone ?h63 ?hby ?hbase ?_)
      case hown => exact HOw.out
      case hnews => exact HNw.out
      case hone => intro u hu; simp at hu; subst hu; rfl
      case h63 => unfold maxLen; omega
      case hby => omega
      case hbase => simp; omega
      intro v1 w4 hown hgr hniff
      rw [map_snoc (Value.int .u8)] at hown
      obtain ⟨gg, cap', hv1, p1, p2⟩ := owns_form hown (by omega)
      subst hv1
      have hge := ownBlock_ge1 HOw.out
      have HS4 := Lib.hid ((S1.out.below (k2.out.mono hw1) hlt).below (below_of_grown (B := w.heap.size) hgr hge (by simp; omega)) hlt)
      have HB4 := Lib.hid (btw_grown (HB1.out.alloc (.cells #[.int .u8 (97 + (v : Int))] 5)) hgr hge)
      have HO4 := Lib.hid hown
      clear hown hgr hniff hge k2 HOw HNw HO1 HB1 S1 hb1 HO
      go_wp2
      go_roundw
      case rel => exact ⟨k + 1, gg, cap', by omega, rfl, by go_num, Lib.hid (by rw [HN2.out]; exact HO4.out), Lib.hid (by rw [HN2.out]; exact HS4.out), HB4.out⟩
      case measure => simp [intOf]; omega
    · have hi : ¬ (k : Int) < (N : Int) := by omega
      obtain rfl : k = N := by omega
      have hcv := (run_convert_bytes_arg (P := Try.prog) wr 22 5 Try.underlying22 Try.underlying5 g 0 k cap (someN zs k0 s0 k).1 HL.out (owns_cells HO.out) 9 Try.underlying9)
      obtain ⟨sk, hsk⟩ : ∃ sk, sk = someN zs k0 s0 k := ⟨_, rfl⟩
      rw [← hsk] at HO HS hcv HL
      have HSK := Lib.hid hsk
      clear hsk hat
      go_wp2
      refine bodyPost_ret (v := .string (strOfNums sk.1)) (by simp [results, Try.results56, go_sem]) rfl ?_
      exact ⟨by rw [HSK.out], by rw [← HSK.out]; exact HS, hbw⟩
set_option maxRecDepth 100000 in
set_option maxHeartbeats 4000000 in
theorem srcPick (b : Nat) (A : Option Addr) (n c : Nat) (zs : List Nat) (k sd : Nat) (w : World) (g cap : Nat) (t0 t1 t2 t3 : ByteArray) (hK : k ≤ 1000000) (h : SrcX w b A n c zs k sd) (hg : b < g) (X : Box w g 9 #[.string t0, .string t1, .string t2, .string t3]) :
    Calls Try.prog 55 #[.pointer (some ⟨b, 0, none⟩), .slice (some ⟨g, 0, none⟩) 4 cap] w fun e w' => e = .returned (.string ([t0, t1, t2, t3].getD ((byteV zs k sd).1 % 4) ByteArray.empty)) ∧ Hid (SrcX w' b A n c zs (byteV zs k sd).2.1 (byteV zs k sd).2.2) ∧ Btw b (b + 1) w w' := by
  have HC := Lib.hid (srcNextX 4 b A n c zs k sd w (by omega) (by omega) (by omega) h)
  have HX := Lib.hid X
  clear h X
  go_enter Try.func55, Try.ntmps55
  go_wp2_with fail
  refine HC.out.mono ?_
  rintro e w1 ⟨rfl, S1, hb1⟩
  have hv : (byteV zs k sd).1 % 4 < 4 := Nat.mod_lt _ (by omega)
  have X1 := HX.out.btw hb1 (.inr (by omega))
  obtain ⟨v, hv9⟩ : ∃ v, v = (byteV zs k sd).1 % 4 := ⟨_, rfl⟩
  rw [← hv9] at hv ⊢
  have HV := Lib.hid hv9
  clear hv9
  have hc : w1.cell? ⟨g, v, none⟩ = some (.string ([t0, t1, t2, t3].getD v ByteArray.empty)) := by
    match v, hv with
    | 0, _ => exact X1.cell 0 rfl
    | 1, _ => exact X1.cell 1 rfl
    | 2, _ => exact X1.cell 2 rfl
    | 3, _ => exact X1.cell 3 rfl
  have i1 : (v : Int) < 4 := by omega
  have i0 : (0 : Int) ≤ (v : Int) := by omega
  obtain ⟨r, hr⟩ : ∃ r, r = [t0, t1, t2, t3].getD v ByteArray.empty := ⟨_, rfl⟩
  rw [← hr] at hc
  have HR := Lib.hid hr
  clear HC X1 hr
  go_wp2
  refine bodyPost_ret (v := .string r) (by simp [results, Try.results55, go_sem]) rfl ?_
  exact ⟨by rw [HR.out, HV.out], S1, hb1⟩
def pageX (zs : List Nat) (k sd : Nat) : ByteArray × Nat × Nat :=
  ([⟨#[97]⟩, ⟨#[98, 98]⟩, ⟨#[]⟩, strOfNums (someN zs k sd 3).1].getD ((byteV zs (someN zs k sd 3).2.1 (someN zs k sd 3).2.2).1 % 4) ByteArray.empty, (byteV zs (someN zs k sd 3).2.1 (someN zs k sd 3).2.2).2.1, (byteV zs (someN zs k sd 3).2.1 (someN zs k sd 3).2.2).2.2)
def pagesN (zs : List Nat) (k sd : Nat) : Nat → List ByteArray × Nat × Nat
  | 0 => ([], k, sd)
  | N + 1 => ((pagesN zs k sd N).1 ++ [(pageX zs (pagesN zs k sd N).2.1 (pagesN zs k sd N).2.2).1], (pageX zs (pagesN zs k sd N).2.1 (pagesN zs k sd N).2.2).2.1, (pageX zs (pagesN zs k sd N).2.1 (pagesN zs k sd N).2.2).2.2)
theorem pageX_at (zs : List Nat) (k sd : Nat) : (pageX zs k sd).2.1 = k + 4 := by
  unfold pageX; simp only; rw [byteV_at, someN_at]
theorem pageX_size (zs : List Nat) (k sd : Nat) : (pageX zs k sd).1.size ≤ 100 := by
  have h3 : (strOfNums (someN zs k sd 3).1).size = 3 := by rw [strOfNums_size, someN_len]
  unfold pageX
  simp only
  have hv : (byteV zs (someN zs k sd 3).2.1 (someN zs k sd 3).2.2).1 % 4 < 4 := Nat.mod_lt _ (by omega)
  generalize (byteV zs (someN zs k sd 3).2.1 (someN zs k sd 3).2.2).1 % 4 = v at hv
  match v, hv with
  | 0, _ => exact (by decide : (1 : Nat) ≤ 100)
  | 1, _ => exact (by decide : (2 : Nat) ≤ 100)
  | 2, _ => exact (by decide : (0 : Nat) ≤ 100)
  | 3, _ => show (strOfNums (someN zs k sd 3).1).size ≤ 100; omega
theorem pagesN_len (zs : List Nat) (k sd : Nat) : ∀ N, (pagesN zs k sd N).1.length = N
  | 0 => rfl
  | N + 1 => by rw [pagesN, List.length_append, pagesN_len zs k sd N]; rfl
theorem pagesN_at (zs : List Nat) (k sd : Nat) : ∀ N, (pagesN zs k sd N).2.1 = k + 4 * N
  | 0 => rfl
  | N + 1 => by rw [pagesN]; simp only; rw [pageX_at, pagesN_at zs k sd N]; omega
theorem pagesN_size (zs : List Nat) (k sd : Nat) : ∀ N, ∀ s ∈ (pagesN zs k sd N).1, s.size ≤ 100
  | 0, s, h => by cases h
  | N + 1, s, h => by
    rw [pagesN] at h
    rcases List.mem_append.1 h with h | h
    · exact pagesN_size zs k sd N s h
    · rw [List.mem_singleton.1 h]; exact pageX_size _ _ _
def GivesPages (b : Nat) (A : Option Addr) (n c : Nat) (zs : List Nat) (k sd : Nat) (w : World) (e : Ending) (w' : World) : Prop :=
  ∃ P cp, e = .returned (.slice P 17 cp) ∧ Hid (OwnS w' w.heap.size w'.heap.size P (pagesN zs k sd 17).1) ∧ Hid (SrcX w' b A n c zs (pagesN zs k sd 17).2.1 (pagesN zs k sd 17).2.2) ∧ Btw b (b + 1) w w'
set_option maxRecDepth 100000 in
set_option maxHeartbeats 4000000 in
theorem srcPages (b : Nat) (A : Option Addr) (n c : Nat) (zs : List Nat) (k0 s0 : Nat) (w : World) (hK : k0 ≤ 900000) (h : SrcX w b A n c zs k0 s0) :
    Calls Try.prog 26 #[.pointer (some ⟨b, 0, none⟩)] w (GivesPages b A n c zs k0 s0 w) := by
  have hlt : b < w.heap.size := h.1.lt
  obtain ⟨i0, hi0, hz0, hz1, hz2⟩ := infoSx
  have HI := Lib.hid (And.intro hi0 (And.intro hz0 (And.intro hz1 hz2)))
  clear hi0 hz0 hz1 hz2
  have hb0 := alloc_below w (.cells #[] 9)
  have HS0 := Lib.hid (h.below hb0 hlt)
  have HB0 : Hid (Btw b (b + 1) w (w.alloc (.cells #[] 9))) := Lib.hid ((Btw.refl b (b + 1) w).alloc _)
  have HO0 := Lib.hid (owns_empty (base := w.heap.size) (Nat.le_refl _) (Box.new w 9 #[]))
  clear h hb0
  go_enter Try.func26, Try.ntmps26
  go_wp2
  generalize w.alloc (.cells #[] 9) = w0 at HS0 HB0 HO0 ⊢
  go_loopw [3, 4] (fun o q wr => ∃ (k g cap : Nat), k ≤ 17 ∧ o = .slice (some ⟨g, 0, none⟩) k cap ∧ q = .int .i64 k ∧ Hid (wr.ownsRow w.heap.size 9 1 (.slice (some ⟨g, 0, none⟩) k cap) k (cellsS (pagesN zs k0 s0 k).1)) ∧ Hid (SrcX wr b A n c zs (pagesN zs k0 s0 k).2.1 (pagesN zs k0 s0 k).2.2) ∧ Btw b (b + 1) w wr) (fun _ q _ => 17 - (intOf q).toNat)
  case atStart => exact ⟨0, _, _, Nat.zero_le _, rfl, rfl, HO0, HS0, HB0.out⟩
  case round =>
    obtain ⟨k, g, cap, hk, rfl, rfl, HO, HS, hbw⟩ := hrel
    have HL := Lib.hid (pagesN_len zs k0 s0 k)
    have hat := pagesN_at zs k0 s0 k
    by_cases hkn : k < 17
    · have hi : (k : Int) < 17 := by omega
      have HN2 : Hid (pagesN zs k0 s0 (k + 1) = ((pagesN zs k0 s0 k).1 ++ [(pageX zs (pagesN zs k0 s0 k).2.1 (pagesN zs k0 s0 k).2.2).1], (pageX zs (pagesN zs k0 s0 k).2.1 (pagesN zs k0 s0 k).2.2).2.1, (pageX zs (pagesN zs k0 s0 k).2.1 (pagesN zs k0 s0 k).2.2).2.2)) := Lib.hid rfl
      generalize pagesN zs k0 s0 k = sk at HO HS HN2 HL hat
      obtain ⟨xs, kk, sd⟩ := sk
      simp only at HO HS HN2 HL hat
      have HC := Lib.hid (srcSomeX 3 b A n c zs kk sd wr (by omega) (by omega) HS.out)
      have hsa := someN_at zs kk sd 3
      have HPX : Hid (pageX zs kk sd = ([⟨#[97]⟩, ⟨#[98, 98]⟩, ⟨#[]⟩, strOfNums (someN zs kk sd 3).1].getD ((byteV zs (someN zs kk sd 3).2.1 (someN zs kk sd 3).2.2).1 % 4) ByteArray.empty, (byteV zs (someN zs kk sd 3).2.1 (someN zs kk sd 3).2.2).2.1, (byteV zs (someN zs kk sd 3).2.1 (someN zs kk sd 3).2.2).2.2)) := Lib.hid rfl
      generalize someN zs kk sd 3 = tk at HC hsa HPX
      obtain ⟨ts, k1, s1⟩ := tk
      simp only at HC hsa HPX
      generalize strOfNums ts = tt at HC HPX
      have HK1 : Hid (k1 ≤ 1000000) := Lib.hid (by omega)
      clear hsa hat
      go_wp2_with fail
      refine HC.out.mono ?_
      rintro e w1 ⟨rfl, S1, hb1⟩
      clear HC HS
      obtain ⟨W2, hW2⟩ : ∃ W2, W2 = w1.alloc (.cells #[.string ⟨#[97]⟩, .string ⟨#[98, 98]⟩, .string ⟨#[]⟩, .string tt] 9) := ⟨_, rfl⟩
      have k2 : Below w1.heap.size w1 W2 := by rw [hW2]; exact alloc_below _ _
      have X2 : Hid (Box W2 w1.heap.size 9 #[.string ⟨#[97]⟩, .string ⟨#[98, 98]⟩, .string ⟨#[]⟩, .string tt]) := Lib.hid (by rw [hW2]; exact Box.new _ _ _)
      have hb1lt : b < w1.heap.size := Nat.lt_of_lt_of_le hlt (hbw.trans hb1).size
      have S2 := Lib.hid (S1.out.below k2 hb1lt)
      have HO1 := Lib.hid (owns_keep HO.out (fun j h1 h2 => hb1.block j h2 (.inr (by omega))))
      have HO2 := Lib.hid (owns_keep HO1.out (fun j _ h2 => k2.block j h2))
      have HB2 : Hid (Btw b (b + 1) w W2) := Lib.hid (by rw [hW2]; exact (hbw.trans hb1).alloc _)
      have HP := Lib.hid (srcPick b A n c zs k1 s1 W2 w1.heap.size 4 ⟨#[97]⟩ ⟨#[98, 98]⟩ ⟨#[]⟩ tt HK1.out S2.out hb1lt X2.out)
      clear S1 HO HO1 k2 S2 X2 HK1
      generalize [(⟨#[97]⟩ : ByteArray), ⟨#[98, 98]⟩, ⟨#[]⟩, tt].getD ((byteV zs k1 s1).1 % 4) ByteArray.empty = r at HP HPX
      go_wp2_with fail
      rw [← hW2]
      refine HP.out.mono ?_
      rintro e w3 ⟨rfl, S3, hb3⟩
      clear HP hW2
      have HO3 := Lib.hid (owns_keep HO2.out (fun j h1 h2 => hb3.block j h2 (.inr (by omega))))
      have HB3 := Lib.hid (HB2.out.trans hb3)
      have k4 := Lib.hid (alloc_below w3 (.cells #[.string r] 9))
      have HOw := Lib.hid (owns_keep HO3.out (fun j _ h2 => k4.out.block j h2))
      have HNw : Hid (∀ j u, [Value.string r][j]? = some u → (w3.alloc (.cells #[.string r] 9)).cell? ((⟨w3.heap.size, 0, none⟩ : Addr).add j) = some u) := Lib.hid (fun j u hj => by
        have hB := Box.new w3 9 #[.string r]
        match j, hj with
        | 0, hj => simp at hj; subst hj; exact hB.cell 0 rfl)
      have hw1 : w.heap.size ≤ w3.heap.size := HB3.out.size
      go_wp2_with (at_builtin; refine wpList_append_own _ rfl (.tmp 10) (.tmp 16) 23 rfl w.heap.size 9 i0 (.string ByteArray.empty) 1 16 Try.underlying23 HI.out.1 HI.out.2.1 HI.out.2.2.1 HI.out.2.2.2 rfl (by decide) _ k (cellsS xs) rfl ?hown ⟨w3.heap.size, 0, none⟩ 1 1 [.string r] rfl rfl ?hnews ?hone ?h63 ?hby ?hbase ?_)
      case hown => exact HOw.out
      case hnews => exact HNw.out
      case hone => intro u hu; simp at hu; subst hu; rfl
      case h63 => unfold maxLen; omega
      case hby => omega
      case hbase => simp; omega
      intro v1 w4 hown hgr hniff
      rw [show cellsS xs ++ [.string r] = cellsS (xs ++ [r]) from map_snoc Value.string xs r] at hown
      obtain ⟨gg, cap', hv1, p1, p2⟩ := owns_form hown (by omega)
      subst hv1
      have hge := ownBlock_ge1 HOw.out
      have HS4 := Lib.hid ((S3.out.below (k4.out.mono hw1) hlt).below (below_of_grown (B := w.heap.size) hgr hge (by simp; omega)) hlt)
      have HB4 := Lib.hid (btw_grown (HB3.out.alloc (.cells #[.string r] 9)) hgr hge)
      have HO4 := Lib.hid hown
      clear hown hgr hniff hge k4 HOw HNw HO3 HB3 S3 hb3 HO2 HB2 hb1
      go_wp2
      go_roundw
      case rel => exact ⟨k + 1, gg, cap', by omega, rfl, by go_num, Lib.hid (by rw [HN2.out, HPX.out]; exact HO4.out), Lib.hid (by rw [HN2.out, HPX.out]; exact HS4.out), HB4.out⟩
      case measure => simp [intOf]; omega
    · have hi : ¬ (k : Int) < 17 := by omega
      obtain rfl : k = 17 := by omega
      clear hat
      have HR := Lib.hid (ownS_new (A' := some ⟨g, 0, none⟩) (b := ⟨g, 0, none⟩) HL.out (.inr ⟨by omega, HO.out⟩))
      clear HO HL
      go_wp2
      refine bodyPost_ret (v := .slice (some ⟨g, 0, none⟩) 17 cap) (by simp [results, Try.results26, go_sem]) rfl ?_
      exact ⟨_, _, rfl, HR, HS, hbw⟩
end Go.Proofs.Ytcchhbkbnbphhaa

/- The model's source of draws: fates. -/
namespace Go.Proofs.Ytcchhbkbnbphhaa
open Go.RowKit

end Go.Proofs.Ytcchhbkbnbphhaa
