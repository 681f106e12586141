/- Texts of this claim, one behind the other: FlashOk, FlashBits, AppFresh, AppNew, App, FlashSpec, Chip. -/
import Derived.Laws.BitsLemmas
import Derived.Laws.AppendOwn
import Derived.OwnWalk
import Derived.Test.YtophgbjbinaekaaGreatDoorRows
import Derived.Deep.MidRow
import Derived.Test.YtophgbjbinaekaaGreatDoorM1
/- Contracts of the tests of a flash: isByte, isOffset, isBlock, blockOf, l01In, l03At, allBytes, Flash.valid, both FlashOK, checkCell, checkBlock, l03Ask. -/
namespace Go.Proofs.YtophgbjbinaekaaGreatDoor
open Go.RowKit

def byB (n : Int) : Bool := decide (0 ≤ n ∧ n ≤ 255)
def stB (n : Int) : Bool := decide (0 ≤ n ∧ n ≤ 8)
def okFlash (zs : List Int) (gs : List Bool) (st : Int) : Bool := (decide (zs.length = 256) && decide (gs.length = 16)) && (stB st && zs.all byB)
theorem byB_range {a : Int} (h : byB a = true) : 0 ≤ a ∧ a ≤ 255 := by unfold byB at h; simpa using h
theorem stB_range {a : Int} (h : stB a = true) : 0 ≤ a ∧ a ≤ 8 := by unfold stB at h; simpa using h
theorem okFlash_len {zs : List Int} {gs : List Bool} {st : Int} (h : okFlash zs gs st = true) : zs.length = 256 ∧ gs.length = 16 ∧ (0 ≤ st ∧ st ≤ 8) ∧ ∀ z ∈ zs, 0 ≤ z ∧ z ≤ 255 := by
  unfold okFlash at h
  simp only [Bool.and_eq_true, decide_eq_true_eq, List.all_eq_true] at h
  exact ⟨h.1.1, h.1.2, stB_range h.2.1, fun z hz => byB_range (h.2.2 z hz)⟩
theorem okFlash_mk {zs : List Int} {gs : List Bool} {st : Int} (h1 : zs.length = 256) (h2 : gs.length = 16) (h3 : 0 ≤ st ∧ st ≤ 8) (h4 : ∀ z ∈ zs, 0 ≤ z ∧ z ≤ 255) : okFlash zs gs st = true := by
  unfold okFlash
  simp only [Bool.and_eq_true, decide_eq_true_eq, List.all_eq_true]
  exact ⟨⟨h1, h2⟩, by unfold stB; simpa using h3, fun z hz => by unfold byB; simpa using h4 z hz⟩

set_option maxRecDepth 100000 in
theorem isByte (n : Int) (w : World) : Calls Tryz.prog 67 #[.int .i64 n] w fun e w' => e = .returned (.bool (byB n)) ∧ w = w' := by
  go_enter Tryz.func67, Tryz.ntmps67
  go_wp2
  all_goals go_ret
  all_goals (refine ⟨ret_bool ?_, rfl⟩)
  all_goals (unfold byB; rw [Bool.eq_iff_iff]; simp; try omega)
set_option maxRecDepth 100000 in
theorem l01In255 (n : Int) (w : World) : Calls Tryz.prog 49 #[.int .i64 n, .int .i64 0, .int .i64 255] w fun e w' => e = .returned (.bool (byB n)) ∧ w = w' := by
  go_enter Tryz.func49, Tryz.ntmps49
  go_wp2
  all_goals go_ret
  all_goals (refine ⟨ret_bool ?_, rfl⟩)
  all_goals (unfold byB; rw [Bool.eq_iff_iff]; simp; try omega)
set_option maxRecDepth 100000 in
theorem l01In8 (n : Int) (w : World) : Calls Tryz.prog 49 #[.int .i64 n, .int .i64 0, .int .i64 8] w fun e w' => e = .returned (.bool (stB n)) ∧ w = w' := by
  go_enter Tryz.func49, Tryz.ntmps49
  go_wp2
  all_goals go_ret
  all_goals (refine ⟨ret_bool ?_, rfl⟩)
  all_goals (unfold stB; rw [Bool.eq_iff_iff]; simp; try omega)
set_option maxRecDepth 100000 in
theorem blockOf (n : Nat) (hn : n ≤ 255) (w : World) : Calls Tryz.prog 183 #[.int .i64 n] w fun e w' => e = .returned (.int .i64 ((n / 16 : Nat) : Int)) ∧ w = w' := by
  go_enter Tryz.func183, Tryz.ntmps183
  go_wp2
  go_ret
  exact ⟨rfl, rfl⟩

set_option maxRecDepth 100000 in
set_option maxHeartbeats 1000000 in
theorem allBytes (A : Option Addr) (n c : Nat) (zs : List Int) (w : World) (hl : zs.length = n) (hn : n ≤ maxLen) (h : IntL w A zs) :
    Calls Tryz.prog 68 #[.slice A n c] w fun e w' => e = .returned (.bool (zs.all byB)) ∧ w = w' := by
  unfold maxLen at hn
  have HL := Lib.hid hl
  have H := Lib.hid h
  clear hl h
  go_enter Tryz.func68, Tryz.ntmps68
  go_wp2
  go_loop [7] (fun i => ∃ k : Nat, k ≤ n ∧ i = .int .i64 k ∧ Hid (zs.all byB = (zs.drop k).all byB)) (fun i => n - (intOf i).toNat)
  case atStart => exact ⟨0, Nat.zero_le _, rfl, Lib.hid rfl⟩
  case round =>
    obtain ⟨k, hk, rfl, HT⟩ := hrel
    by_cases hlt : k < n
    · obtain ⟨b, off, rfl, hc⟩ := H.out k (by rw [HL.out]; exact hlt)
      have HS := Lib.hid (all_step byB zs 0 k (by rw [HL.out]; exact hlt))
      generalize zs.getD k 0 = x at hc HS
      have hi : (k : Int) < (n : Int) := by omega
      by_cases hE : byB x = true
      · go_wp2_with (first | (go_at_call 67; refine (isByte _ _).mono ?_; rintro e w' ⟨rfl, rfl⟩; rw [hE]))
        go_round
        case rel => exact ⟨k + 1, by omega, by go_num, Lib.hid (by rw [HT.out, HS.out, hE]; rfl)⟩
        case measure => simp [intOf]; omega
      · have hE' : byB x = false := by simpa using hE
        clear hE
        go_wp2_with (first | (go_at_call 67; refine (isByte _ _).mono ?_; rintro e w' ⟨rfl, rfl⟩; rw [hE']))
        go_ret
        exact ⟨ret_bool (by rw [HT.out, HS.out, hE']; rfl), rfl⟩
    · have HT2 : Hid (zs.all byB = true) := Lib.hid (by rw [HT.out]; exact all_end _ _ _ (by rw [HL.out]; omega))
      go_wp2
      go_ret
      exact ⟨ret_bool HT2.out.symm, rfl⟩

theorem okFlash_no1 (zs : List Int) (gs : List Bool) (st : Int) (h : zs.length ≠ 256) : okFlash zs gs st = false := by unfold okFlash; simp [h]
theorem okFlash_no2 (zs : List Int) (gs : List Bool) (st : Int) (h : gs.length ≠ 16) : okFlash zs gs st = false := by unfold okFlash; simp [h]
theorem okFlash_no3 (zs : List Int) (gs : List Bool) (st : Int) (h : stB st = false) : okFlash zs gs st = false := by unfold okFlash; simp [h]
theorem okFlash_yes (zs : List Int) (gs : List Bool) (st : Int) (h : zs.length = 256) (h2 : gs.length = 16) (h3 : stB st = true) : okFlash zs gs st = zs.all byB := by unfold okFlash; simp [h, h2, h3]

set_option maxRecDepth 100000 in
set_option maxHeartbeats 2000000 in
theorem flashValid (A C : Option Addr) (n c m d : Nat) (st : Int) (zs : List Int) (gs : List Bool) (w : World) (hl : zs.length = n) (hm : gs.length = m) (hn : n ≤ maxLen) (_hmm : m ≤ maxLen) (h : IntL w A zs) :
    Calls Tryz.prog 69 #[.agg #[.slice A n c, .slice C m d, .int .i64 st]] w fun e w' => e = .returned (.bool (okFlash zs gs st)) ∧ Below w.heap.size w w' := by
  have hb0 := alloc_below w (.cells #[.slice A n c, .slice C m d, .int .i64 st] 29)
  have HB := Lib.hid (allBytes A n c zs _ hl hn (h.below hb0))
  unfold maxLen at hn _hmm
  have HL := Lib.hid hl
  have HM := Lib.hid hm
  clear hl hm h
  by_cases h1 : n = 256
  · have q1 : ((n : Int) == 256) = true := by simp; omega
    by_cases h2 : m = 16
    · have q2 : ((m : Int) == 16) = true := by simp; omega
      by_cases h3 : 0 ≤ st
      · by_cases h4 : st ≤ 8
        · have HY := Lib.hid (okFlash_yes zs gs st (by rw [HL.out]; exact h1) (by rw [HM.out]; exact h2) (by unfold stB; simp; omega))
          generalize okFlash zs gs st = r at HY
          generalize zs.all byB = ab at HB HY
          clear h1 h2
          go_enter Tryz.func69, Tryz.ntmps69
          go_wp2_with (first | (go_at_call 68; refine HB.out.mono ?_; rintro e w' ⟨rfl, rfl⟩))
          all_goals go_ret
          all_goals exact ⟨ret_bool HY.out.symm, hb0⟩
        · have HF := Lib.hid (okFlash_no3 zs gs st (by unfold stB; simp; omega))
          clear h1 h2
          go_enter Tryz.func69, Tryz.ntmps69
          go_wp2
          all_goals go_ret
          all_goals exact ⟨ret_bool HF.out.symm, hb0⟩
      · have HF := Lib.hid (okFlash_no3 zs gs st (by unfold stB; simp; omega))
        clear h1 h2
        go_enter Tryz.func69, Tryz.ntmps69
        go_wp2
        all_goals go_ret
        all_goals exact ⟨ret_bool HF.out.symm, hb0⟩
    · have q2 : ((m : Int) == 16) = false := by simp; omega
      have HF := Lib.hid (okFlash_no2 zs gs st (by rw [HM.out]; exact h2))
      clear h1 h2
      go_enter Tryz.func69, Tryz.ntmps69
      go_wp2
      all_goals go_ret
      all_goals exact ⟨ret_bool HF.out.symm, hb0⟩
  · have q1 : ((n : Int) == 256) = false := by simp; omega
    have HF := Lib.hid (okFlash_no1 zs gs st (by rw [HL.out]; exact h1))
    clear h1
    go_enter Tryz.func69, Tryz.ntmps69
    go_wp2
    all_goals go_ret
    all_goals exact ⟨ret_bool HF.out.symm, hb0⟩

set_option maxRecDepth 100000 in
set_option maxHeartbeats 2000000 in
theorem specFlashOK (A C : Option Addr) (n c m d : Nat) (st : Int) (zs : List Int) (gs : List Bool) (w : World) (hl : zs.length = n) (hm : gs.length = m) (hn : n ≤ maxLen) (_hmm : m ≤ maxLen) (h : IntL w A zs) :
    Calls Tryz.prog 79 #[.agg #[.slice A n c, .slice C m d, .int .i64 st]] w fun e w' => e = .returned (.bool (okFlash zs gs st)) ∧ Below w.heap.size w w' := by
  have hb0 := alloc_below w (.cells #[.slice A n c, .slice C m d, .int .i64 st] 29)
  have H := Lib.hid (h.below hb0)
  unfold maxLen at hn _hmm
  have HL := Lib.hid hl
  have HM := Lib.hid hm
  clear hl hm h
  by_cases h1 : n = 256
  · have q1 : ((n : Int) != 256) = false := by simp; omega
    by_cases h2 : m = 16
    · have q2 : ((m : Int) != 16) = false := by simp; omega
      by_cases h3 : stB st = true
      · have HY := Lib.hid (okFlash_yes zs gs st (by rw [HL.out]; exact h1) (by rw [HM.out]; exact h2) h3)
        generalize okFlash zs gs st = r at HY
        have H3 := Lib.hid h3
        clear h1 h2 h3
        go_enter Tryz.func79, Tryz.ntmps79
        go_wp2_with (first | (go_at_call 49; refine (l01In8 _ _).mono ?_; rintro e w' ⟨rfl, rfl⟩; rw [H3.out]))
        go_loop [3] (fun i => ∃ k : Nat, k ≤ n ∧ i = .int .i64 k ∧ Hid (zs.all byB = (zs.drop k).all byB)) (fun i => n - (intOf i).toNat)
        case atStart => exact ⟨0, Nat.zero_le _, rfl, Lib.hid rfl⟩
        case round =>
          obtain ⟨k, hk, rfl, HT⟩ := hrel
          by_cases hlt : k < n
          · obtain ⟨b, off, rfl, hc⟩ := H.out k (by rw [HL.out]; exact hlt)
            have HS := Lib.hid (all_step byB zs 0 k (by rw [HL.out]; exact hlt))
            generalize zs.getD k 0 = x at hc HS
            have hi : (k : Int) < (n : Int) := by omega
            by_cases hE : byB x = true
            · go_wp2_with (first | (go_at_call 49; refine (l01In255 _ _).mono ?_; rintro e w' ⟨rfl, rfl⟩; rw [hE]))
              go_round
              case rel => exact ⟨k + 1, by omega, by go_num, Lib.hid (by rw [HT.out, HS.out, hE]; rfl)⟩
              case measure => simp [intOf]; omega
            · have hE' : byB x = false := by simpa using hE
              clear hE
              go_wp2_with (first | (go_at_call 49; refine (l01In255 _ _).mono ?_; rintro e w' ⟨rfl, rfl⟩; rw [hE']))
              go_ret
              exact ⟨ret_bool (by rw [HY.out, HT.out, HS.out, hE']; rfl), hb0⟩
          · have HT2 : Hid (zs.all byB = true) := Lib.hid (by rw [HT.out]; exact all_end _ _ _ (by rw [HL.out]; omega))
            go_wp2
            go_ret
            exact ⟨ret_bool (by rw [HY.out, HT2.out]), hb0⟩
      · have h3' : stB st = false := by simpa using h3
        have HF := Lib.hid (okFlash_no3 zs gs st h3')
        have H3 := Lib.hid h3'
        clear h1 h2 h3 h3'
        go_enter Tryz.func79, Tryz.ntmps79
        go_wp2_with (first | (go_at_call 49; refine (l01In8 _ _).mono ?_; rintro e w' ⟨rfl, rfl⟩; rw [H3.out]))
        go_ret
        exact ⟨ret_bool HF.out.symm, hb0⟩
    · have q2 : ((m : Int) != 16) = true := by simp; omega
      have HF := Lib.hid (okFlash_no2 zs gs st (by rw [HM.out]; exact h2))
      clear h1 h2
      go_enter Tryz.func79, Tryz.ntmps79
      go_wp2
      all_goals go_ret
      all_goals exact ⟨ret_bool HF.out.symm, hb0⟩
  · have q1 : ((n : Int) != 256) = true := by simp; omega
    have HF := Lib.hid (okFlash_no1 zs gs st (by rw [HL.out]; exact h1))
    clear h1
    go_enter Tryz.func79, Tryz.ntmps79
    go_wp2
    all_goals go_ret
    all_goals exact ⟨ret_bool HF.out.symm, hb0⟩

end Go.Proofs.YtophgbjbinaekaaGreatDoor

/- The bits of bytes: 'and' as the language has it, and as a natural number. -/
namespace Go.Proofs.YtophgbjbinaekaaGreatDoor
open Go.RowKit

theorem wrap8 (n : Int) (h0 : 0 ≤ n) (h1 : n < 2 ^ 8) : IntKind.u8.wrap n = n := by
  have e : n % 2 ^ 8 = n := Int.emod_eq_of_lt h0 h1
  simp only [IntKind.wrap, IntKind.bits, IntKind.signed, e]
  simp
theorem wrap64 (n : Int) (h0 : 0 ≤ n) (h1 : n < 2 ^ 8) : IntKind.i64.wrap n = n := by
  have e : n % 2 ^ 64 = n := Int.emod_eq_of_lt h0 (by omega)
  simp only [IntKind.wrap, IntKind.bits, IntKind.signed, e]
  rw [if_neg]
  simp
  omega
theorem and_u8 (a b : Nat) (ha : a < 256) (hb : b < 256) : bits .and .u8 (a : Int) (b : Int) = ((a &&& b : Nat) : Int) := (bits_nat .u8 8 (by decide) wrap8 a b ha hb).1
theorem and_i64 (a b : Nat) (ha : a < 256) (hb : b < 256) : bits .and .i64 (a : Int) (b : Int) = ((a &&& b : Nat) : Int) := (bits_nat .i64 8 (by decide) wrap64 a b ha hb).1
theorem and_3 (a : Nat) (ha : a < 256) : bits .and .i64 (a : Int) 3 = ((a % 4 : Nat) : Int) := by
  have := and_i64 a 3 ha (by omega)
  rw [show a &&& 3 = a % 4 from Nat.and_two_pow_sub_one_eq_mod a 2] at this
  exact this
theorem and_lt (a b : Nat) (ha : a < 256) : a &&& b < 256 := Nat.lt_of_le_of_lt Nat.and_le_left ha
end Go.Proofs.YtophgbjbinaekaaGreatDoor

/- append of a whole row onto an empty literal. -/
namespace Go.Proofs.YtophgbjbinaekaaGreatDoor
open Go.RowKit

theorem run_app_fresh {P : Program} (w : World) (t ty e : TypeId) (i : TypeInfo) (z : Value) (size bytes : Nat) (ht : P.underlying t = some (.slice e)) (hi : P.info? e = some i) (hz : i.zero = some z)
    (hsize : i.size = size) (hby : i.bytes = bytes) (hzs : z.cells.size = size) (hsz : 0 < size) (b : Addr)
    (A : Option Addr) (m c : Nat) (hm : 0 < m) (news : List Value) (hl : news.length = m * size) (hsrc : ∃ ad, A = some ad ∧ ∀ j u, news[j]? = some u → w.cell? (ad.add j) = some u)
    (h63 : m ≤ maxLen) (hbytes : m * bytes ≤ 140737488355328) :
    ∃ A' cap w', (Builtin.append_ #[t, t] ty #[.slice (some b) 0 0, .slice A m c]).run P w = .ok (.slice A' m cap) w' ∧ Below w.heap.size w w' ∧ w'.ownsRow w.heap.size e size (.slice A' m cap) m news := by
  obtain ⟨ad, rfl, hc⟩ := hsrc
  obtain ⟨v', w', hr, ho, hg⟩ := run_append_arg_grows (P := P) w t ty e i z size bytes ht hi hz hsize hby hzs hsz b 0 0 [] (by simp) (fun j u hj => by simp at hj) ad m c news hl hc (by omega) (by omega) (by rw [Nat.zero_add]; exact hbytes)
  rw [Nat.zero_add] at ho
  obtain ⟨hl', h0 | ⟨g, cap, cur, rfl, hrest⟩⟩ := ho
  · omega
  · exact ⟨_, cap, w', hr, (Below.refl _ _).grown hg (Nat.le_refl _) (fun k hk => by cases hk), hl', .inr ⟨g, cap, cur, rfl, hrest⟩⟩

theorem wpList_app_fresh {P : Program} {ops : Array Oper} {rest : List Oper} {o : Oper} {a : Act} {w : World} {Q : Exit → Act → World → Prop}
    (hg : o.guard = none) (s x : Operand) (t : TypeId) (hop : o.op = Op.call { callee := Callee.builtin Builtin.append, args := #[s, x], argTypes := #[t, t] })
    (e : TypeId) (z : Value) (size bytes : Nat) (ht : P.underlying t = some (.slice e)) (hi : ∃ i : TypeInfo, P.info? e = some i ∧ i.zero = some z ∧ i.size = size ∧ i.bytes = bytes) (hzs : z.cells.size = size) (hsz : 0 < size) (b : Addr) (hs : a.eval s = .slice (some b) 0 0)
    (A : Option Addr) (m c : Nat) (hm : 0 < m) (news : List Value) (hx : a.eval x = .slice A m c) (hl : news.length = m * size) (hsrc : ∃ ad, A = some ad ∧ ∀ j u, news[j]? = some u → w.cell? (ad.add j) = some u)
    (h63 : m ≤ maxLen) (hbytes : m * bytes ≤ 140737488355328)
    (h : ∀ A' cap w', Below w.heap.size w w' → Hid (w'.ownsRow w.heap.size e size (.slice A' m cap) m news) → wpList P ops Q rest (a.put o.dst (.slice A' m cap)) w') : wpList P ops Q (o :: rest) a w :=
  wpList_plain hg fun _ hK => by
    obtain ⟨i, hi, hz, hsize, hby⟩ := hi
    obtain ⟨A', cap, w', hr, h2, h3⟩ := run_app_fresh (P := P) w t o.type e i z size bytes ht hi hz hsize hby hzs hsz b A m c hm news hl hsrc h63 hbytes
    unfold Oper.wp execOp
    simp only [hop, resolve, invoke, builtin, Sem.run_bind, Sem.run_pure, Result.andThen_ok, List.map_toArray, List.map_cons, List.map_nil, hs, hx, hr]
    exact hK _ _ (h A' cap w' h2 (Lib.hid h3))
end Go.Proofs.YtophgbjbinaekaaGreatDoor

/- append of a whole row onto an empty literal; lists as rows of one cell each. -/
namespace Go.Proofs.YtophgbjbinaekaaGreatDoor
open Go.RowKit

theorem row_of_owns {α : Type} (mk : α → Value) (dflt : α) {w : World} {base n : Nat} {t : TypeId} {v : Value} {ss : List α} (h : w.ownsRow base t 1 v n (ss.map mk)) (hn : 0 < n) : ∃ g cap m f, v = .slice (some ⟨g, 0, none⟩) n cap ∧ base ≤ g ∧ n ≤ m ∧ ss.length = n ∧ w.rowIs g t m f ∧ ∀ i, i < n → f i = mk (ss.getD i dflt) := by
  obtain ⟨hl, h0 | ⟨g, cap, cur, rfl, hb, hg, hnc, _, hsz, htk⟩⟩ := h
  · omega
  · rw [List.length_map, Nat.mul_one] at hl
    rw [Nat.mul_one] at hsz htk
    refine ⟨g, cap, cap, fun i => cur.toList.getD i undef, rfl, hb, hnc, hl, ⟨cur, hg, hsz, fun i hi => ?_⟩, fun i hi => ?_⟩
    · have : i < cur.toList.length := by simp [hsz, hi]
      show cur[i]? = some (cur.toList.getD i undef)
      rw [List.getD_eq_getElem?_getD, List.getElem?_eq_getElem this, ← Array.getElem?_toList, List.getElem?_eq_getElem this]
      rfl
    · have h1 : (cur.toList.take n)[i]? = (ss.map mk)[i]? := by rw [htk]
      rw [List.getElem?_take, if_pos hi] at h1
      show cur.toList.getD i undef = _
      rw [List.getD_eq_getElem?_getD, h1, List.getElem?_map, List.getD_eq_getElem?_getD, List.getElem?_eq_getElem (by omega)]
      rfl

def cellsI (zs : List Int) : List Value := zs.map fun z => .int .i64 z
def cellsB (gs : List Bool) : List Value := gs.map Value.bool
theorem cellsI_len (zs : List Int) : (cellsI zs).length = zs.length := by simp [cellsI]
theorem cellsB_len (gs : List Bool) : (cellsB gs).length = gs.length := by simp [cellsB]
theorem ownI_fresh {w' : World} {A : Option Addr} {n cap lo base : Nat} {zs : List Int} (h : w'.ownsRow base 3 1 (.slice A n cap) n (cellsI zs)) (hn : 0 < n) (hlo : lo ≤ base) : OwnI w' lo w'.heap.size A zs := by
  obtain ⟨g, cap', m, f, e, q1, q2, q3, q4, q5⟩ := row_of_owns (fun z => Value.int .i64 z) 0 h hn
  injection e with e _ _
  subst e
  exact .inr ⟨g, m, f, rfl, by omega, q4.lt, by omega, q4, fun i hi => q5 i (by omega)⟩
theorem ownB_fresh {w' : World} {A : Option Addr} {n cap lo base : Nat} {gs : List Bool} (h : w'.ownsRow base 4 1 (.slice A n cap) n (cellsB gs)) (hn : 0 < n) (hlo : lo ≤ base) : OwnB w' lo w'.heap.size A gs := by
  obtain ⟨g, cap', m, f, e, q1, q2, q3, q4, q5⟩ := row_of_owns Value.bool false h hn
  injection e with e _ _
  subst e
  exact .inr ⟨g, m, f, rfl, by omega, q4.lt, by omega, q4, fun i hi => q5 i (by omega)⟩
theorem addr_add (b off j : Nat) : (⟨b, off, none⟩ : Addr).add j = ⟨b, off + j, none⟩ := by unfold Addr.add; split <;> simp_all
theorem IntL.src {w : World} {A : Option Addr} {zs : List Int} (h : IntL w A zs) (hn : 0 < zs.length) : ∃ ad, A = some ad ∧ ∀ j u, (cellsI zs)[j]? = some u → w.cell? (ad.add j) = some u := by
  obtain ⟨b, off, e, _⟩ := h 0 hn
  refine ⟨_, e, fun j u hj => ?_⟩
  have hj' : j < zs.length := by
    have := (List.getElem?_eq_some_iff.1 hj).1
    rwa [cellsI_len] at this
  obtain ⟨b', off', e', hc⟩ := h j hj'
  rw [e] at e'
  injection e' with e'
  injection e' with e1 e2 _
  subst e1 e2
  rw [addr_add, hc, ← hj]
  unfold cellsI
  rw [List.getElem?_map, List.getD_eq_getElem?_getD, List.getElem?_eq_getElem hj']
  rfl
theorem BoolL.src {w : World} {A : Option Addr} {gs : List Bool} (h : BoolL w A gs) (hn : 0 < gs.length) : ∃ ad, A = some ad ∧ ∀ j u, (cellsB gs)[j]? = some u → w.cell? (ad.add j) = some u := by
  obtain ⟨b, off, e, _⟩ := h 0 hn
  refine ⟨_, e, fun j u hj => ?_⟩
  have hj' : j < gs.length := by
    have := (List.getElem?_eq_some_iff.1 hj).1
    rwa [cellsB_len] at this
  obtain ⟨b', off', e', hc⟩ := h j hj'
  rw [e] at e'
  injection e' with e'
  injection e' with e1 e2 _
  subst e1 e2
  rw [addr_add, hc, ← hj]
  unfold cellsB
  rw [List.getElem?_map, List.getD_eq_getElem?_getD, List.getElem?_eq_getElem hj']
  rfl
set_option maxRecDepth 100000 in
theorem infoIx : ∃ i : TypeInfo, Tryz.prog.info? 3 = some i ∧ i.zero = some (.int .i64 0) ∧ i.size = 1 ∧ i.bytes = 8 := by
  obtain ⟨i, hi, hzz⟩ := Option.map_eq_some_iff.1 infoI
  simp only [Prod.mk.injEq] at hzz
  exact ⟨i, hi, hzz.1, hzz.2.1, hzz.2.2⟩
set_option maxRecDepth 100000 in
theorem infoBx : ∃ i : TypeInfo, Tryz.prog.info? 4 = some i ∧ i.zero = some (.bool false) ∧ i.size = 1 ∧ i.bytes = 1 := by
  obtain ⟨i, hi, hzz⟩ := Option.map_eq_some_iff.1 infoB
  simp only [Prod.mk.injEq] at hzz
  exact ⟨i, hi, hzz.1, hzz.2.1, hzz.2.2⟩

theorem OwnI.put {w : World} {lo hi : Nat} {A : Option Addr} {zs : List Int} (h : OwnI w lo hi A zs) (k : Nat) (hk : k < zs.length) :
    ∃ b m f, A = some ⟨b, 0, none⟩ ∧ w.cell? ⟨b, k, none⟩ = some (.int .i64 (zs.getD k 0)) ∧ w.frozen? ⟨b, k, none⟩ = false ∧ lo ≤ b ∧ b < hi ∧ w.rowIs b 3 m f ∧ ∀ x, OwnI (w.setCell ⟨b, k, none⟩ (.int .i64 x)) lo hi A (zs.set k x) := by
  rcases h with rfl | ⟨b, m, f, e, h1, h2, hm, hr, hf⟩
  · simp at hk
  · refine ⟨b, m, f, e, by rw [← hf k hk]; exact hr.cell (by omega), hr.frozen k, h1, h2, hr, fun x => .inr ⟨b, m, _, e, h1, h2, by simpa using hm, hr.set k (.int .i64 x), fun i hi' => ?_⟩⟩
    have hi2 : i < zs.length := by simpa using hi'
    show (if i = k then Value.int .i64 x else f i) = _
    by_cases q : i = k
    · subst q
      rw [if_pos rfl, List.getD_eq_getElem?_getD, List.getElem?_set_self hk]
      rfl
    · rw [if_neg q, hf i hi2, List.getD_eq_getElem?_getD, List.getD_eq_getElem?_getD, List.getElem?_set_ne (fun e => q e.symm)]
theorem OwnB.put {w : World} {lo hi : Nat} {A : Option Addr} {zs : List Bool} (h : OwnB w lo hi A zs) (k : Nat) (hk : k < zs.length) :
    ∃ b m f, A = some ⟨b, 0, none⟩ ∧ w.cell? ⟨b, k, none⟩ = some (.bool (zs.getD k false)) ∧ w.frozen? ⟨b, k, none⟩ = false ∧ lo ≤ b ∧ b < hi ∧ w.rowIs b 4 m f ∧ ∀ x, OwnB (w.setCell ⟨b, k, none⟩ (.bool x)) lo hi A (zs.set k x) := by
  rcases h with rfl | ⟨b, m, f, e, h1, h2, hm, hr, hf⟩
  · simp at hk
  · refine ⟨b, m, f, e, by rw [← hf k hk]; exact hr.cell (by omega), hr.frozen k, h1, h2, hr, fun x => .inr ⟨b, m, _, e, h1, h2, by simpa using hm, hr.set k (.bool x), fun i hi' => ?_⟩⟩
    have hi2 : i < zs.length := by simpa using hi'
    show (if i = k then Value.bool x else f i) = _
    by_cases q : i = k
    · subst q
      rw [if_pos rfl, List.getD_eq_getElem?_getD, List.getElem?_set_self hk]
      rfl
    · rw [if_neg q, hf i hi2, List.getD_eq_getElem?_getD, List.getD_eq_getElem?_getD, List.getElem?_set_ne (fun e => q e.symm)]
theorem OwnB.other {w : World} {lo hi : Nat} {A : Option Addr} {gs : List Bool} (h : OwnB w lo hi A gs) {b m : Nat} {t : TypeId} {f : Nat → Value} (hr : w.rowIs b t m f) (ht : t ≠ 4) (i : Nat) (u : Value) : OwnB (w.setCell ⟨b, i, none⟩ u) lo hi A gs := by
  rcases h with e | ⟨b', m', f', e, p1, p2, hm, hr', hf⟩
  · exact .inl e
  · exact .inr ⟨b', m', f', e, p1, p2, hm, hr'.setOther (a := ⟨b, i, none⟩) (by exact (row_ne hr hr' ht).symm) u, hf⟩
theorem OwnI.other {w : World} {lo hi : Nat} {A : Option Addr} {zs : List Int} (h : OwnI w lo hi A zs) {b m : Nat} {t : TypeId} {f : Nat → Value} (hr : w.rowIs b t m f) (ht : t ≠ 3) (i : Nat) (u : Value) : OwnI (w.setCell ⟨b, i, none⟩ u) lo hi A zs := by
  rcases h with e | ⟨b', m', f', e, p1, p2, hm, hr', hf⟩
  · exact .inl e
  · exact .inr ⟨b', m', f', e, p1, p2, hm, hr'.setOther (a := ⟨b, i, none⟩) (by exact (row_ne hr hr' ht).symm) u, hf⟩
theorem Box.other {w : World} {b : Nat} {t : TypeId} {cs : Array Value} (X : Box w b t cs) {b' m : Nat} {t' : TypeId} {f : Nat → Value} (hr : w.rowIs b' t' m f) (ht : t ≠ t') (i : Nat) (u : Value) : Box (w.setCell ⟨b', i, none⟩ u) b t cs :=
  X.far (p := ⟨b', i, none⟩) (X.ne hr ht) u
end Go.Proofs.YtophgbjbinaekaaGreatDoor

/- Appending one element to a slice of the call's own; what such a slice is good for. -/
namespace Go.Proofs.YtophgbjbinaekaaGreatDoor
open Go.RowKit

structure Elem (P : Program) (e : TypeId) (z : Value) (size bytes : Nat) : Prop where
  info : ∃ i : TypeInfo, P.info? e = some i ∧ i.zero = some z ∧ i.size = size ∧ i.bytes = bytes
  cells : z.cells.size = size
  pos : 0 < size

abbrev RowV (w : World) (base : Nat) (e : TypeId) (size : Nat) (v : Value) (n : Nat) (xs : List Value) : Prop := w.ownsRow base e size v n xs

theorem rowv_form {w : World} {base n : Nat} {e : TypeId} {size : Nat} {v : Value} {xs : List Value} (h : w.ownsRow base e size v n xs) : ∃ A cap, v = .slice A n cap ∧ n ≤ cap := by
  rcases h.2 with ⟨rfl, rfl⟩ | ⟨g, cap, cur, rfl, _, _, q, _⟩
  · exact ⟨none, 0, rfl, Nat.le_refl _⟩
  · exact ⟨_, cap, rfl, q⟩
theorem Box.grown {w w' : World} {b base n : Nat} {t e : TypeId} {cs : Array Value} {size : Nat} {v : Value} {xs : List Value} (h : Box w b t cs) (hr : w.ownsRow base e size v n xs) (ht : t ≠ e) (hg : w.grownBy w' v.ownBlock) : Box w' b t cs := by
  have hlt := h.lt
  refine (hg.block b hlt ?_).trans h
  rcases hr.2 with ⟨rfl, _⟩ | ⟨g, cap, cur, rfl, _, q2, _⟩
  · simp [Value.ownBlock]
  · simp only [Value.ownBlock, ne_eq, Option.some.injEq]
    rintro rfl
    unfold Box at h
    rw [h] at q2
    injection q2 with q2
    injection q2 with _ q3
    exact ht q3
def GroI (w : World) (base : Nat) (v : Value) (zs : List Int) : Prop := w.ownsRow base 3 1 v zs.length (zs.map (Value.int .i64))
def GroS (w : World) (base : Nat) (v : Value) (ss : List ByteArray) : Prop := w.ownsRow base 9 1 v ss.length (ss.map Value.string)
theorem GroI.own {w : World} {base lo : Nat} {A : Option Addr} {n c : Nat} {zs : List Int} (h : GroI w base (.slice A n c) zs) (hb : lo ≤ base) : OwnI w lo w.heap.size A zs := by
  obtain ⟨h1, ⟨h0, h2⟩ | ⟨g, cap, cur, hv, q1, q2, q3, q4, q5, q6⟩⟩ := h
  · exact .inl (List.eq_nil_of_length_eq_zero h2)
  · injection hv with hv1 hv2 hv3
    refine .inr ⟨g, cap, fun i => cur.getD i (.int .i64 0), hv1, by omega, (Array.getElem?_eq_some_iff.1 q2).1, q3, ⟨cur, q2, by omega, fun i hi => ?_⟩, fun i hi => ?_⟩
    · simp [Array.getElem?_eq_getElem (show i < cur.size by omega)]
    · have : (cur.toList.take (zs.length * 1))[i]? = (zs.map (Value.int .i64))[i]? := by rw [q6]
      rw [List.getElem?_take, if_pos (by omega), Array.getElem?_toList, List.getElem?_map, List.getElem?_eq_getElem hi] at this
      simp [this, List.getD_eq_getElem?_getD, List.getElem?_eq_getElem hi]
theorem GroS.own {w : World} {base lo : Nat} {A : Option Addr} {n c : Nat} {ss : List ByteArray} (h : GroS w base (.slice A n c) ss) (hb : lo ≤ base) : OwnS w lo w.heap.size A ss := by
  obtain ⟨h1, ⟨h0, h2⟩ | ⟨g, cap, cur, hv, q1, q2, q3, q4, q5, q6⟩⟩ := h
  · exact .inl (List.eq_nil_of_length_eq_zero h2)
  · injection hv with hv1 hv2 hv3
    refine .inr ⟨g, cap, fun i => cur.getD i (.int .i64 0), hv1, by omega, (Array.getElem?_eq_some_iff.1 q2).1, q3, ⟨cur, q2, by omega, fun i hi => ?_⟩, fun i hi => ?_⟩
    · simp [Array.getElem?_eq_getElem (show i < cur.size by omega)]
    · have : (cur.toList.take (ss.length * 1))[i]? = (ss.map Value.string)[i]? := by rw [q6]
      rw [List.getElem?_take, if_pos (by omega), Array.getElem?_toList, List.getElem?_map, List.getElem?_eq_getElem hi] at this
      simp [this, List.getD_eq_getElem?_getD, List.getElem?_eq_getElem hi]
theorem GroI.len {w : World} {base : Nat} {A : Option Addr} {n c : Nat} {zs : List Int} (h : GroI w base (.slice A n c) zs) : zs.length = n := by
  obtain ⟨A', cap, hv, _⟩ := rowv_form h
  injection hv with _ hv2 _; exact hv2.symm
theorem GroS.len {w : World} {base : Nat} {A : Option Addr} {n c : Nat} {ss : List ByteArray} (h : GroS w base (.slice A n c) ss) : ss.length = n := by
  obtain ⟨A', cap, hv, _⟩ := rowv_form h
  injection hv with _ hv2 _; exact hv2.symm
end Go.Proofs.YtophgbjbinaekaaGreatDoor

/- The model's own copy of a flash, and what it does to one: l03Own, l03Program, l03Erase, l03Guard. -/
namespace Go.Proofs.YtophgbjbinaekaaGreatDoor
open Go.RowKit

theorem ext_getD {α : Type} (d : α) {l m : List α} (hl : l.length = m.length) (h : ∀ i, i < l.length → l.getD i d = m.getD i d) : l = m := by
  apply List.ext_getElem hl
  intro i h1 h2
  have := h i h1
  rw [List.getD_eq_getElem?_getD, List.getD_eq_getElem?_getD, List.getElem?_eq_getElem h1, List.getElem?_eq_getElem h2] at this
  exact this
def fillR (zs : List Int) (a b : Nat) : List Int := (List.range zs.length).map fun i => if a ≤ i ∧ i < b then 255 else zs.getD i 0
theorem fillR_len (zs : List Int) (a b : Nat) : (fillR zs a b).length = zs.length := by simp [fillR]
theorem fillR_at (zs : List Int) (a b i : Nat) (h : i < zs.length) : (fillR zs a b).getD i 0 = if a ≤ i ∧ i < b then 255 else zs.getD i 0 := by
  unfold fillR
  rw [List.getD_eq_getElem?_getD, List.getElem?_map, List.getElem?_range h]
  rfl
theorem fillR_none (zs : List Int) (a : Nat) : fillR zs a a = zs := by
  apply ext_getD 0 (fillR_len _ _ _)
  intro i hi
  rw [fillR_len] at hi
  rw [fillR_at _ _ _ _ hi, if_neg (by omega)]
theorem fillR_next (zs : List Int) (a b : Nat) (hab : a ≤ b) (hb : b < zs.length) : (fillR zs a b).set b 255 = fillR zs a (b + 1) := by
  apply ext_getD 0 (by simp [fillR_len])
  intro i hi
  have hi' : i < zs.length := by simpa [fillR_len] using hi
  rw [fillR_at _ _ _ _ hi']
  by_cases e : i = b
  · subst e
    rw [List.getD_eq_getElem?_getD, List.getElem?_set_self (by rw [fillR_len]; exact hb), if_pos ⟨hab, by omega⟩]
    rfl
  · rw [List.getD_eq_getElem?_getD, List.getElem?_set_ne (fun q => e q.symm), ← List.getD_eq_getElem?_getD, fillR_at _ _ _ _ hi']
    by_cases q : a ≤ i ∧ i < b
    · rw [if_pos q, if_pos (by omega)]
    · rw [if_neg q, if_neg (by omega)]
def progL (zs : List Int) (gs : List Bool) (k v : Nat) : List Int := if gs.getD (k / 16) false then zs else zs.set k (((zs.getD k 0).toNat &&& v : Nat) : Int)
def eraseL (zs : List Int) (gs : List Bool) (b : Nat) : List Int := if gs.getD b false then zs else fillR zs (b * 16) (b * 16 + 16)
theorem progL_len (zs : List Int) (gs : List Bool) (k v : Nat) : (progL zs gs k v).length = zs.length := by unfold progL; split <;> simp
theorem eraseL_len (zs : List Int) (gs : List Bool) (b : Nat) : (eraseL zs gs b).length = zs.length := by unfold eraseL; split <;> simp [fillR_len]

set_option maxRecDepth 100000 in
set_option maxHeartbeats 4000000 in
theorem l03OwnC (A C : Option Addr) (n c m d : Nat) (st : Int) (zs : List Int) (gs : List Bool) (w : World) (hl : zs.length = n) (hm : gs.length = m) (hn : n = 256) (hmm : m = 16) (h : IntL w A zs) (g : BoolL w C gs) :
    Calls Tryz.prog 92 #[.agg #[.slice A n c, .slice C m d, .int .i64 st]] w (GivesFlashC zs gs st w) := by
  obtain ⟨W0, hW0⟩ : ∃ W0, W0 = ((w.alloc (.cells #[.slice A n c, .slice C m d, .int .i64 st] 29)).alloc (.cells #[.slice none 0 0, .slice none 0 0, .int .i64 0] 29)) := ⟨_, rfl⟩
  have hb0 : Below w.heap.size w W0 := by rw [hW0]; exact bt (alloc_below _ _) (alloc_below _ _)
  have X0 : Box W0 w.heap.size 29 #[.slice A n c, .slice C m d, .int .i64 st] := by rw [hW0]; exact (Box.new _ _ _).alloc _
  have Y0 : Box W0 (w.heap.size + 1) 29 #[.slice none 0 0, .slice none 0 0, .int .i64 0] := by rw [hW0]; simpa using Box.new (w.alloc (.cells #[.slice A n c, .slice C m d, .int .i64 st] 29)) 29 #[.slice none 0 0, .slice none 0 0, .int .i64 0]
  have HL := Lib.hid (And.intro hl hm)
  have HSi := Lib.hid (fun W (hb : Below w.heap.size w W) => (h.below hb).src (by omega))
  have HSb := Lib.hid (fun W (hb : Below w.heap.size w W) => (g.below hb).src (by omega))
  have HCi : Hid ((cellsI zs).length = n * 1) := Lib.hid (by rw [cellsI_len]; omega)
  have HCb : Hid ((cellsB gs).length = m * 1) := Lib.hid (by rw [cellsB_len]; omega)
  have hn1 : 0 < n := by omega
  have hm1 : 0 < m := by omega
  have hn2 : n ≤ 256 := by omega
  have hm2 : m ≤ 16 := by omega
  have HW0 := Lib.hid hW0
  have f0 := X0.cell 0 rfl
  have HX := Lib.hid (And.intro X0 Y0)
  have hba := bt hb0 (alloc_below W0 (.cells #[] 3))
  clear hl hm h g hW0 X0 Y0 hn hmm
  go_enter Tryz.func92, Tryz.ntmps92
  go_wp2_with (first | (rw [← HW0.out]; with_reducible refine wpList_app_fresh rfl (.tmp 3) (.tmp 5) 23 rfl 3 (.int .i64 0) 1 8 Tryz.underlying23 infoIx rfl (by decide) _ rfl A n c hn1 (cellsI zs) rfl HCi.out (HSi.out _ hba) (by unfold maxLen; omega) (by omega) ?_))
  intro A1 c1 w1 hb1 O1
  have hk1 := (alloc_below W0 (.cells #[] 3)).trans (hb1.mono (by omega))
  have X1 := HX.out.1.step hk1
  have Y1 := HX.out.2.step hk1
  have KC : Hid (n ≤ c1) := Lib.hid (by obtain ⟨A', cap, hv, hle⟩ := rowv_form O1.out; injection hv with _ _ e3; omega)
  have S1 := Lib.hid (ownI_fresh (lo := w.heap.size) O1.out hn1 (by have := hb0.size; omega))
  have g0 := X1.cell 0 rfl
  have g0z := X1.frozen 0
  have g1 : ((w1.setCell ⟨w.heap.size, 0, none⟩ (.slice A1 n c1)).alloc (.cells #[] 4)).cell? ⟨w.heap.size, 1, none⟩ = some (.slice C m d) := ((X1.set 0 _).alloc _).cell 1 rfl
  have hb2 : Below w.heap.size w (w1.setCell ⟨w.heap.size, 0, none⟩ (.slice A1 n c1)) := (bt hb0 hk1).setCell (Nat.le_refl _) _
  have S2 := Lib.hid (S1.out.farB X1 (by decide) 0 (.slice A1 n c1))
  have HE : Hid (w1.heap.size = (w1.setCell ⟨w.heap.size, 0, none⟩ (.slice A1 n c1)).heap.size) := Lib.hid (by simp [World.setCell])
  rw [HE.out] at S2
  have HX2 := Lib.hid (And.intro (X1.set 0 (.slice A1 n c1)) (Y1.far (p := ⟨w.heap.size, 0, none⟩) (by show w.heap.size + 1 ≠ w.heap.size; omega) (.slice A1 n c1)))
  clear f0 HX hb0 hb1 O1 hk1 X1 Y1 S1 HE hba HSi HCi
  obtain ⟨w2, hw2⟩ : ∃ w2, w2 = w1.setCell ⟨w.heap.size, 0, none⟩ (.slice A1 n c1) := ⟨_, rfl⟩
  rw [← hw2] at hb2 S2 HX2
  have HW2 := Lib.hid hw2
  clear hw2
  have hbb := bt hb2 (alloc_below w2 (.cells #[] 4))
  go_wp2_with (first | (rw [← HW2.out]; with_reducible refine wpList_app_fresh rfl (.tmp 8) (.tmp 10) 27 rfl 4 (.bool false) 1 1 Tryz.underlying27 infoBx rfl (by decide) _ rfl C m d hm1 (cellsB gs) rfl HCb.out (HSb.out _ hbb) (by unfold maxLen; omega) (by omega) ?_))
  intro A3 c3 w3 hb3 O3
  have hk3 := (alloc_below w2 (.cells #[] 4)).trans (hb3.mono (by omega))
  have V1 := HX2.out.1.step hk3
  have V2 := HX2.out.2.step hk3
  have S3 := Lib.hid (ownB_fresh (lo := w.heap.size) O3.out hm1 (by have := hb2.size; omega))
  have S4 := Lib.hid ((S2.out.below hk3).wideB (Nat.le_refl _) hk3.size)
  have k0 : w3.cell? ⟨w.heap.size, 0, none⟩ = some (.slice A1 n c1) := V1.cell 0 rfl
  have k1 : w3.cell? ⟨w.heap.size, 1, none⟩ = some (.slice C m d) := V1.cell 1 rfl
  have k2 : w3.cell? ⟨w.heap.size, 2, none⟩ = some (.int .i64 st) := V1.cell 2 rfl
  have k1z := V1.frozen 1
  have e0 : w3.cell? ⟨w.heap.size + 1, 0, none⟩ = some (.slice none 0 0) := V2.cell 0 rfl
  have e1 : w3.cell? ⟨w.heap.size + 1, 1, none⟩ = some (.slice none 0 0) := V2.cell 1 rfl
  have e2 : w3.cell? ⟨w.heap.size + 1, 2, none⟩ = some (.int .i64 0) := V2.cell 2 rfl
  have e0z := V2.frozen 0
  have e1z := V2.frozen 1
  have e2z := V2.frozen 2
  have hb4 := bt hb2 hk3
  have HV := Lib.hid (And.intro V1 V2)
  clear g0 g0z g1 HX2 hb2 hb3 hk3 O3 V1 V2 S2 hbb HSb HCb HW2
  go_wp2
  refine bodyPost_ret (v := .agg #[.slice A1 n c1, .slice A3 m c3, .int .i64 st]) (by simp [results, Tryz.results92, go_sem, e0, e1, e2]) rfl ?_
  have v1 := HV.out.1
  have v2 := HV.out.2.far (p := ⟨w.heap.size, 1, none⟩) (by show w.heap.size + 1 ≠ w.heap.size; omega) (.slice A3 m c3)
  refine ⟨_, _, _, _, _, _, rfl, Lib.hid HL.out.1, Lib.hid HL.out.2, Lib.hid ?_, Lib.hid ?_, KC, ?_⟩
  · have q := S4.out.farB v1 (by decide) 1 (.slice A3 m c3)
    exact (((q.farB v2 (by decide) 0 _).farB (v2.set 0 _) (by decide) 1 _).farB ((v2.set 0 _).set 1 _) (by decide) 2 _).wideB (Nat.le_refl _) (by simp [World.setCell])
  · have q := S3.out.far v1 (by decide) 1 (.slice A3 m c3)
    exact (((q.far v2 (by decide) 0 _).far (v2.set 0 _) (by decide) 1 _).far ((v2.set 0 _).set 1 _) (by decide) 2 _).wide (Nat.le_refl _) (by simp [World.setCell])
  · exact (((hb4.setCell (Nat.le_refl _) _).setCell (by show w.heap.size ≤ w.heap.size + 1; omega) _).setCell (by show w.heap.size ≤ w.heap.size + 1; omega) _).setCell (by show w.heap.size ≤ w.heap.size + 1; omega) _

set_option maxRecDepth 100000 in
theorem l03Own (A C : Option Addr) (n c m d : Nat) (st : Int) (zs : List Int) (gs : List Bool) (w : World) (hl : zs.length = n) (hm : gs.length = m) (hn : n = 256) (hmm : m = 16) (h : IntL w A zs) (g : BoolL w C gs) :
    Calls Tryz.prog 92 #[.agg #[.slice A n c, .slice C m d, .int .i64 st]] w (GivesFlash zs gs st w) :=
  (l03OwnC A C n c m d st zs gs w hl hm hn hmm h g).mono fun _ _ h => h.plain

theorem at256 {zs : List Int} (h : ∀ z ∈ zs, 0 ≤ z ∧ z ≤ 255) (k : Nat) (hk : k < zs.length) : ∃ z : Nat, zs.getD k 0 = z ∧ z < 256 := by
  have := h (zs.getD k 0) (by rw [List.getD_eq_getElem?_getD, List.getElem?_eq_getElem hk]; exact List.getElem_mem _)
  exact ⟨(zs.getD k 0).toNat, by omega, by omega⟩

theorem Box.flash3 {w : World} {b : Nat} {cs : Array Value} (X : Box w b 29 cs) (hs : cs.size = 3) (u0 u1 u2 : Value) :
    Box (((w.setCell ⟨b, 0, none⟩ u0).setCell ⟨b, 1, none⟩ u1).setCell ⟨b, 2, none⟩ u2) b 29 #[u0, u1, u2] := by
  have := ((X.set 0 u0).set 1 u1).set 2 u2
  rw [show ((cs.setIfInBounds 0 u0).setIfInBounds 1 u1).setIfInBounds 2 u2 = #[u0, u1, u2] from by
    match cs, hs with
    | ⟨[a, b, c]⟩, _ => rfl] at this
  exact this
theorem Box.far3 {w : World} {b b' : Nat} {t : TypeId} {cs : Array Value} (X : Box w b t cs) (hb : b ≠ b') (u0 u1 u2 : Value) :
    Box (((w.setCell ⟨b', 0, none⟩ u0).setCell ⟨b', 1, none⟩ u1).setCell ⟨b', 2, none⟩ u2) b t cs := ((X.far (p := ⟨b', 0, none⟩) hb u0).far (p := ⟨b', 1, none⟩) hb u1).far (p := ⟨b', 2, none⟩) hb u2
theorem OwnI.far3 {w : World} {lo hi : Nat} {A : Option Addr} {zs : List Int} (h : OwnI w lo hi A zs) {b : Nat} {cs : Array Value} (X : Box w b 29 cs) (u0 u1 u2 : Value) : OwnI (((w.setCell ⟨b, 0, none⟩ u0).setCell ⟨b, 1, none⟩ u1).setCell ⟨b, 2, none⟩ u2) lo hi A zs :=
  ((h.farB X (by decide) 0 u0).farB (X.set 0 u0) (by decide) 1 u1).farB ((X.set 0 u0).set 1 u1) (by decide) 2 u2
theorem OwnB.far3 {w : World} {lo hi : Nat} {A : Option Addr} {gs : List Bool} (h : OwnB w lo hi A gs) {b : Nat} {cs : Array Value} (X : Box w b 29 cs) (u0 u1 u2 : Value) : OwnB (((w.setCell ⟨b, 0, none⟩ u0).setCell ⟨b, 1, none⟩ u1).setCell ⟨b, 2, none⟩ u2) lo hi A gs :=
  ((h.far X (by decide) 0 u0).far (X.set 0 u0) (by decide) 1 u1).far ((X.set 0 u0).set 1 u1) (by decide) 2 u2
theorem below3 {w0 w : World} {b : Nat} (h : Below w0.heap.size w0 w) (hb : w0.heap.size ≤ b) (u0 u1 u2 : Value) : Below w0.heap.size w0 (((w.setCell ⟨b, 0, none⟩ u0).setCell ⟨b, 1, none⟩ u1).setCell ⟨b, 2, none⟩ u2) :=
  ((h.setCell (p := ⟨b, 0, none⟩) hb u0).setCell (p := ⟨b, 1, none⟩) hb u1).setCell (p := ⟨b, 2, none⟩) hb u2
theorem size3 (w : World) (b : Nat) (u0 u1 u2 : Value) : (((w.setCell ⟨b, 0, none⟩ u0).setCell ⟨b, 1, none⟩ u1).setCell ⟨b, 2, none⟩ u2).heap.size = w.heap.size := by simp [World.setCell]

set_option maxRecDepth 100000 in
set_option maxHeartbeats 4000000 in
theorem l03Program (A C : Option Addr) (n c m d k v : Nat) (st : Int) (zs : List Int) (gs : List Bool) (w : World) (hl : zs.length = n) (hm : gs.length = m) (hn : n = 256) (hmm : m = 16) (hk : k < 256) (hv : v < 256) (hz : ∀ z ∈ zs, 0 ≤ z ∧ z ≤ 255) (h : IntL w A zs) (g : BoolL w C gs) :
    Calls Tryz.prog 150 #[.agg #[.slice A n c, .slice C m d, .int .i64 st], .int .i64 k, .int .i64 v] w (GivesFlash (progL zs gs k v) gs st w) := by
  obtain ⟨W0, hW0⟩ : ∃ W0, W0 = ((w.alloc (.cells #[.slice A n c, .slice C m d, .int .i64 st] 29)).alloc (.cells #[.slice none 0 0, .slice none 0 0, .int .i64 0] 29)) := ⟨_, rfl⟩
  have hb0 : Below w.heap.size w W0 := by rw [hW0]; exact bt (alloc_below _ _) (alloc_below _ _)
  have X0 : Box W0 w.heap.size 29 #[.slice A n c, .slice C m d, .int .i64 st] := by rw [hW0]; exact (Box.new _ _ _).alloc _
  have Y0 : Box W0 (w.heap.size + 1) 29 #[.slice none 0 0, .slice none 0 0, .int .i64 0] := by rw [hW0]; simpa using Box.new (w.alloc (.cells #[.slice A n c, .slice C m d, .int .i64 st] 29)) 29 #[.slice none 0 0, .slice none 0 0, .int .i64 0]
  have HO := Lib.hid (l03Own A C n c m d st zs gs W0 hl hm hn hmm (h.below hb0) (g.below hb0))
  have HLen : Hid ((progL zs gs k v).length = n ∧ zs.length = 256 ∧ gs.length = 16) := Lib.hid ⟨by rw [progL_len]; exact hl, by omega, by omega⟩
  obtain ⟨z, hzk, hz2⟩ := at256 hz k (by omega)
  obtain ⟨x, hx⟩ : ∃ x, bits .and .i64 (z : Int) (v : Int) = x := ⟨_, rfl⟩
  have HP : Hid (∀ q, gs.getD (k / 16) false = q → progL zs gs k v = if q then zs else zs.set k x) := Lib.hid (by
    intro q hq
    unfold progL
    rw [hq, hzk, ← hx, and_i64 z v hz2 hv]
    rfl)
  have HZ := Lib.hid hzk
  have HX := Lib.hid (And.intro X0 Y0)
  have HW0 := Lib.hid hW0
  generalize progL zs gs k v = r at HP HLen
  have HN := Lib.hid (And.intro hn hmm)
  clear hl hm h g hW0 X0 Y0 hz hzk hn hmm
  have hkd : ((k / 16 : Nat) : Int) < 16 := by omega
  have hki : (k : Int) < 256 := by omega
  go_enter Tryz.func150, Tryz.ntmps150
  go_wp2_with fail
  rw [← HW0.out]
  refine HO.out.mono ?_
  rintro e w1 ⟨A1, n1, c1, C1, m1, d1, rfl, L1, M1, S1, R1, hb1⟩
  obtain rfl : n1 = 256 := by have := L1.out; have := HLen.out; omega
  obtain rfl : m1 = 16 := by have := M1.out; have := HLen.out; omega
  have X1 := HX.out.1.step hb1
  have Y1 := HX.out.2.step hb1
  have a0 := X1.cell 0 rfl
  have a1 := X1.cell 1 rfl
  have a2 := X1.cell 2 rfl
  have a0z := X1.frozen 0
  have a1z := X1.frozen 1
  have a2z := X1.frozen 2
  obtain ⟨w2, hw2⟩ : ∃ w2, w2 = ((w1.setCell ⟨w.heap.size, 0, none⟩ (.slice A1 256 c1)).setCell ⟨w.heap.size, 1, none⟩ (.slice C1 16 d1)).setCell ⟨w.heap.size, 2, none⟩ (.int .i64 st) := ⟨_, rfl⟩
  have X2 : Box w2 w.heap.size 29 #[.slice A1 256 c1, .slice C1 16 d1, .int .i64 st] := by rw [hw2]; exact X1.flash3 rfl _ _ _
  have Y2 : Box w2 (w.heap.size + 1) 29 #[.slice none 0 0, .slice none 0 0, .int .i64 0] := by rw [hw2]; exact Y1.far3 (by omega) _ _ _
  have S2 : Hid (OwnI w2 w.heap.size w2.heap.size A1 zs) := Lib.hid (by rw [hw2]; exact (S1.out.far3 X1 _ _ _).wideB hb0.size (by rw [size3]; exact Nat.le_refl _))
  have R2 : Hid (OwnB w2 w.heap.size w2.heap.size C1 gs) := Lib.hid (by rw [hw2]; exact (R1.out.far3 X1 _ _ _).wide hb0.size (by rw [size3]; exact Nat.le_refl _))
  have hb2 : Below w.heap.size w w2 := by rw [hw2]; exact below3 (bt hb0 hb1) (Nat.le_refl _) _ _ _
  obtain ⟨bg, mg, fg, rfl, hcg, -, -, -, -, -⟩ := R2.out.put (k / 16) (by have := HLen.out; omega)
  obtain ⟨ba, ma, fa, rfl, hca, hfa, hlo, hhi, hra, hput⟩ := S2.out.put k (by have := HLen.out; omega)
  rw [HZ.out] at hca
  have HP2 := Lib.hid (HP.out _ rfl)
  generalize gs.getD (k / 16) false = q at hcg HP2
  have HPut := Lib.hid (And.intro hlo hput)
  have x0 := X2.cell 0 rfl
  have x1 := X2.cell 1 rfl
  have x2 := X2.cell 2 rfl
  have y0 := Y2.cell 0 rfl
  have y1 := Y2.cell 1 rfl
  have y2 := Y2.cell 2 rfl
  have y0z := Y2.frozen 0
  have y1z := Y2.frozen 1
  have y2z := Y2.frozen 2
  have X3 := X2.other hra (by decide) k (.int .i64 x)
  have Y3 := Y2.other hra (by decide) k (.int .i64 x)
  have R3 := Lib.hid (R2.out.other hra (by decide) k (.int .i64 x))
  have u0 := X3.cell 0 rfl
  have u1 := X3.cell 1 rfl
  have u2 := X3.cell 2 rfl
  have t0 := Y3.cell 0 rfl
  have t1 := Y3.cell 1 rfl
  have t2 := Y3.cell 2 rfl
  have t0z := Y3.frozen 0
  have t1z := Y3.frozen 1
  have t2z := Y3.frozen 2
  have HYs := Lib.hid (And.intro Y2 Y3)
  have HB2 := Lib.hid (And.intro hb2 hw2)
  rw [hw2] at hcg hca hfa x0 x1 x2 y0 y1 y2 y0z y1z y2z u0 u1 u2 t0 t1 t2 t0z t1z t2z
  clear X1 Y1 S1 R1 hb0 hb1 hw2 X2 Y2 hb2 hlo hhi hra hput X3 Y3 HP HO HX HW0 fg fa
  cases q
  · have HE : Hid (r = zs.set k x) := Lib.hid (by rw [HP2.out]; rfl)
    go_wp2
    refine bodyPost_ret (v := .agg #[.slice (some ⟨ba, 0, none⟩) 256 c1, .slice (some ⟨bg, 0, none⟩) 16 d1, .int .i64 st]) (by simp [results, Tryz.results150, go_sem, t0, t1, t2]) rfl ?_
    rw [← HB2.out.2, HE.out]
    refine ⟨_, _, _, _, _, _, rfl, Lib.hid (by rw [← HE.out, HLen.out.1]; exact HN.out.1), Lib.hid HLen.out.2.2, Lib.hid ?_, Lib.hid ?_, ?_⟩
    · exact ((HPut.out.2 x).far3 HYs.out.2 _ _ _).wideB (Nat.le_refl _) (by rw [size3]; simp [World.setCell])
    · exact (R3.out.far3 HYs.out.2 _ _ _).wide (Nat.le_refl _) (by rw [size3]; simp [World.setCell])
    · exact below3 (HB2.out.1.setCell (p := ⟨ba, k, none⟩) HPut.out.1 _) (by omega) _ _ _
  · have HE : Hid (r = zs) := Lib.hid (by rw [HP2.out]; rfl)
    go_wp2
    refine bodyPost_ret (v := .agg #[.slice (some ⟨ba, 0, none⟩) 256 c1, .slice (some ⟨bg, 0, none⟩) 16 d1, .int .i64 st]) (by simp [results, Tryz.results150, go_sem, y0, y1, y2]) rfl ?_
    rw [← HB2.out.2, HE.out]
    refine ⟨_, _, _, _, _, _, rfl, Lib.hid HLen.out.2.1, Lib.hid HLen.out.2.2, Lib.hid ?_, Lib.hid ?_, ?_⟩
    · exact (S2.out.far3 HYs.out.1 _ _ _).wideB (Nat.le_refl _) (by rw [size3]; exact Nat.le_refl _)
    · exact (R2.out.far3 HYs.out.1 _ _ _).wide (Nat.le_refl _) (by rw [size3]; exact Nat.le_refl _)
    · exact below3 HB2.out.1 (by omega) _ _ _
end Go.Proofs.YtophgbjbinaekaaGreatDoor

/- A chip's value: 256 bytes, 16 booleans, a state, one cell each; contracts of chip.protect, chip.program, chip.erase. -/
namespace Go.Proofs.YtophgbjbinaekaaGreatDoor
open Go.RowKit

def chipC (zs : List Int) (gs : List Bool) (st : Int) : List Value := zs.map (fun z => Value.int .u8 z) ++ (gs.map Value.bool ++ [Value.int .i64 st])
theorem chipC_len (zs : List Int) (gs : List Bool) (st : Int) : (chipC zs gs st).length = zs.length + (gs.length + 1) := by simp [chipC]
theorem chipC_cell {zs : List Int} {gs : List Bool} {st : Int} (k : Nat) (hk : k < zs.length) : (chipC zs gs st)[k]? = some (.int .u8 (zs.getD k 0)) := by
  unfold chipC
  rw [List.getElem?_append_left (by simpa using hk), List.getElem?_map, List.getD_eq_getElem?_getD, List.getElem?_eq_getElem hk]
  rfl
theorem chipC_guard {zs : List Int} {gs : List Bool} {st : Int} (hz : zs.length = 256) (k : Nat) (hk : k < gs.length) : (chipC zs gs st)[256 + k]? = some (.bool (gs.getD k false)) := by
  unfold chipC
  rw [List.getElem?_append_right (by simp [hz]), List.length_map, hz, Nat.add_sub_cancel_left, List.getElem?_append_left (by simpa using hk), List.getElem?_map, List.getD_eq_getElem?_getD, List.getElem?_eq_getElem hk]
  rfl
theorem chipC_state {zs : List Int} {gs : List Bool} {st : Int} (hz : zs.length = 256) (hg : gs.length = 16) : (chipC zs gs st)[272]? = some (.int .i64 st) := by
  unfold chipC
  rw [List.getElem?_append_right (by simp [hz]), List.length_map, hz, List.getElem?_append_right (by simp [hg]), List.length_map, hg]
  rfl
theorem chipC_setCell {zs : List Int} {gs : List Bool} {st : Int} (k : Nat) (x : Int) (hk : k < zs.length) : (chipC zs gs st).set k (.int .u8 x) = chipC (zs.set k x) gs st := by
  unfold chipC
  rw [List.set_append_left _ _ (by simpa using hk), List.map_set]
theorem chipC_setGuard {zs : List Int} {gs : List Bool} {st : Int} (hz : zs.length = 256) (k : Nat) (x : Bool) (hk : k < gs.length) : (chipC zs gs st).set (256 + k) (.bool x) = chipC zs (gs.set k x) st := by
  unfold chipC
  rw [List.set_append_right _ _ (by simp [hz]), List.length_map, hz, Nat.add_sub_cancel_left, List.set_append_left _ _ (by simpa using hk), List.map_set]
theorem chipC_setState {zs : List Int} {gs : List Bool} {st : Int} (hz : zs.length = 256) (hg : gs.length = 16) (x : Int) : (chipC zs gs st).set 272 (.int .i64 x) = chipC zs gs x := by
  unfold chipC
  rw [List.set_append_right _ _ (by simp [hz]), List.length_map, hz, List.set_append_right _ _ (by simp [hg]), List.length_map, hg]
  rfl
theorem chipC_one (zs : List Int) (gs : List Bool) (st : Int) : ∀ v ∈ chipC zs gs st, v.oneCell' = true := by
  intro v hv
  unfold chipC at hv
  simp only [List.mem_append, List.mem_map, List.mem_singleton] at hv
  rcases hv with ⟨z, _, rfl⟩ | ⟨z, _, rfl⟩ | rfl <;> rfl

def BC (w : World) (b : Nat) (zs : List Int) (gs : List Bool) (st : Int) : Prop := Box w b 109 (chipC zs gs st).toArray
section
variable {w w' : World} {b : Nat} {zs : List Int} {gs : List Bool} {st : Int}
theorem BC.range (h : BC w b zs gs st) : w.rangeAt b 0 (chipC zs gs st) := fun j v hv => by
  rw [Nat.zero_add]; exact Box.cell h j (by simpa using hv)
theorem BC.there (h : BC w b zs gs st) : w.there b 0 (chipC zs gs st).length := fun j hj => by
  rw [Nat.zero_add]
  exact ⟨by rw [Box.cell h j (by rw [List.getElem?_toArray, List.getElem?_eq_getElem hj])]; rfl, Box.frozen h j⟩
theorem BC.cell (h : BC w b zs gs st) (k : Nat) (hk : k < zs.length) : w.cell? ⟨b, k, none⟩ = some (.int .u8 (zs.getD k 0)) := Box.cell h k (by simpa using chipC_cell k hk)
theorem BC.guard (h : BC w b zs gs st) (hz : zs.length = 256) (k : Nat) (hk : k < gs.length) : w.cell? ⟨b, 256 + k, none⟩ = some (.bool (gs.getD k false)) := Box.cell h (256 + k) (by simpa using chipC_guard hz k hk)
theorem BC.state (h : BC w b zs gs st) (hz : zs.length = 256) (hg : gs.length = 16) : w.cell? ⟨b, 272, none⟩ = some (.int .i64 st) := Box.cell h 272 (by simpa using chipC_state hz hg)
theorem BC.frozen (h : BC w b zs gs st) (k : Nat) : w.frozen? ⟨b, k, none⟩ = false := Box.frozen h k
theorem BC.step (h : BC w b zs gs st) (hb : Below w.heap.size w w') : BC w' b zs gs st := Box.step h hb
theorem BC.setC (h : BC w b zs gs st) (k : Nat) (x : Int) (hk : k < zs.length) : BC (w.setCell ⟨b, k, none⟩ (.int .u8 x)) b (zs.set k x) gs st := by
  have := Box.set h k (.int .u8 x)
  rw [List.setIfInBounds_toArray, chipC_setCell k x hk] at this
  exact this
theorem BC.setS (h : BC w b zs gs st) (hz : zs.length = 256) (hg : gs.length = 16) (x : Int) : BC (w.setCell ⟨b, 272, none⟩ (.int .i64 x)) b zs gs x := by
  have := Box.set h 272 (.int .i64 x)
  rw [List.setIfInBounds_toArray, chipC_setState hz hg x] at this
  exact this
theorem BC.far (h : BC w b zs gs st) {p : Addr} (hp : b ≠ p.block) (u : Value) : BC (w.setCell p u) b zs gs st := Box.far h hp u
theorem BC.alloc (h : BC w b zs gs st) (o : Obj) : BC (w.alloc o) b zs gs st := Box.alloc h o
theorem BC.new (w : World) (zs : List Int) (gs : List Bool) (st : Int) : BC (w.alloc (.cells (chipC zs gs st).toArray 109)) w.heap.size zs gs st := Box.new _ _ _
end
theorem setCells_far {w : World} {b b' : Nat} {t : TypeId} {cs : Array Value} (h : Box w b t cs) (hb : b ≠ b') : ∀ (o : Nat) (vs : List Value), Box (w.setCells b' o vs) b t cs := by
  intro o vs
  induction vs generalizing w o with
  | nil => exact h
  | cons v vs ih => exact ih (h.far (p := ⟨b', o, none⟩) hb v) (o + 1)
theorem setCells_list {w : World} {b : Nat} {t : TypeId} : ∀ (vs pre : List Value) (l : List Value), Box w b t (pre ++ l).toArray → l.length = vs.length → Box (w.setCells b pre.length vs) b t (pre ++ vs).toArray := by
  intro vs
  induction vs generalizing w with
  | nil => intro pre l h hl; rw [List.length_eq_zero_iff.1 hl] at h; exact h
  | cons v vs ih =>
    intro pre l h hl
    match l, hl with
    | x :: l, hl =>
      have h2 := h.set pre.length v
      rw [List.setIfInBounds_toArray, show (pre ++ x :: l).set pre.length v = (pre ++ [v]) ++ l from by rw [List.set_append_right _ _ (Nat.le_refl _), Nat.sub_self]; simp] at h2
      have := ih (w := w.setCell ⟨b, pre.length, none⟩ v) (pre ++ [v]) l h2 (by simpa using hl)
      rw [show (pre ++ [v]).length = pre.length + 1 from by simp, show pre ++ [v] ++ vs = pre ++ v :: vs from by simp] at this
      exact this
theorem BC.put {w : World} {b : Nat} {zs zs' : List Int} {gs gs' : List Bool} {st st' : Int} (h : BC w b zs gs st) (h1 : zs'.length = zs.length) (h2 : gs'.length = gs.length) : BC (w.setCells b 0 (chipC zs' gs' st')) b zs' gs' st' := by
  have := setCells_list (chipC zs' gs' st') [] (chipC zs gs st) h (by rw [chipC_len, chipC_len, h1, h2])
  exact this
theorem BC.far' {w : World} {b b' : Nat} {zs : List Int} {gs : List Bool} {st : Int} (h : BC w b zs gs st) (hb : b ≠ b') (o : Nat) (vs : List Value) : BC (w.setCells b' o vs) b zs gs st := setCells_far h hb o vs
theorem below_setCellsC {w0 w : World} {b : Nat} (h : Below w0.heap.size w0 w) (hb : w0.heap.size ≤ b) : ∀ (o : Nat) (cs : List Value), Below w0.heap.size w0 (w.setCells b o cs) := by
  intro o cs
  induction cs generalizing w o with
  | nil => exact h
  | cons v vs ih => exact ih (h.setCell (p := ⟨b, o, none⟩) hb v) (o + 1)
theorem results_cellC {P : Program} {fn : Func} {tmps : Array Value} {w : World} {a : Nat} {t : TypeId} {p : Addr} {v : Value} (h : fn.results = #[.cell a t]) (hp : tmps.getD a undef = .pointer (some p)) (hv : (loadVar t p).run P w = .ok v w) : (results fn tmps).run P w = .ok v w := by
  unfold results
  rw [h]
  simp only [List.mapM_toArray, List.mapM_cons, List.mapM_nil, hp]
  simp [asAddr, hv]

def zZ : List Int := List.replicate 256 0
def zG : List Bool := List.replicate 16 false
theorem zZ_len : zZ.length = 256 := List.length_replicate
theorem zG_len : zG.length = 16 := List.length_replicate
def zC : List Value := chipC zZ zG 0
theorem chipC_273 {zs : List Int} {gs : List Bool} (hz : zs.length = 256) (hg : gs.length = 16) (st : Int) : (chipC zs gs st).length = 273 := by rw [chipC_len, hz, hg]
theorem BC.there273 {w : World} {b : Nat} {zs : List Int} {gs : List Bool} {st : Int} (h : BC w b zs gs st) (hz : zs.length = 256) (hg : gs.length = 16) : w.there b 0 273 := by
  have := h.there
  rwa [chipC_273 hz hg] at this
theorem BC.newZ (w : World) : BC (w.alloc (.cells zC.toArray 109)) w.heap.size zZ zG 0 := Box.new _ _ _
set_option maxRecDepth 100000 in
theorem infoC : (Tryz.prog.info? 109).map (fun i => (i.zero, i.size)) = some (some (.agg zC.toArray), 273) := by kernel_rfl
set_option maxRecDepth 100000 in
theorem infoCx : ∃ i : TypeInfo, Tryz.prog.info? 109 = some i ∧ i.zero = some (.agg zC.toArray) := by
  obtain ⟨i, hi, hzz⟩ := Option.map_eq_some_iff.1 infoC
  simp only [Prod.mk.injEq] at hzz
  exact ⟨i, hi, hzz.1⟩
set_option maxRecDepth 100000 in
theorem sizeC (zs : List Int) (gs : List Bool) (st : Int) (hz : zs.length = 256) (hg : gs.length = 16) : (Tryz.prog.info? 109).map (·.size) = some (chipC zs gs st).length := by
  obtain ⟨i, hi, hzz⟩ := Option.map_eq_some_iff.1 infoC
  simp only [Prod.mk.injEq] at hzz
  rw [hi, chipC_len, hz, hg, Option.map_some, hzz.2]
theorem wpList_alloc_big {P : Program} {ops : Array Oper} {rest : List Oper} {op : Oper} {a : Act} {w : World} {Q : Exit → Act → World → Prop} (hgd : op.guard = none) (t : TypeId) (ho : op.op = .alloc t) (C : Array Value)
    (hz : ∃ i : TypeInfo, P.info? t = some i ∧ i.zero = some (.agg C)) (h : wpList P ops Q rest (a.put op.dst (.pointer (some ⟨w.heap.size, 0, none⟩))) (w.alloc (.cells C t))) : wpList P ops Q (op :: rest) a w :=
  wpList_plain hgd fun _ hK => by
    obtain ⟨i, hi, hz⟩ := hz
    have hr : (Instr.alloc t true (.tuple #[])).run P w = .ok (.pointer (some ⟨w.heap.size, 0, none⟩)) (w.alloc (.cells C t)) := by
      simp [Instr.alloc, zeroValue, typeInfo, hi, hz, newVar, newRow, newObj, Value.cells]
      rfl
    unfold Oper.wp execOp
    simp only [ho, Sem.run_bind, Sem.run_pure, Result.andThen_ok, hr]
    exact hK _ _ h
theorem wpList_alloc_at {P : Program} {ops : Array Oper} {rest : List Oper} {op : Oper} {a : Act} {w : World} {Q : Exit → Act → World → Prop} (hgd : op.guard = none) (t : TypeId) (ho : op.op = .alloc t) (C : Array Value)
    (hz : ∃ i : TypeInfo, P.info? t = some i ∧ i.zero = some (.agg C)) (b : Nat) (hb : w.heap.size = b) (h : wpList P ops Q rest (a.put op.dst (.pointer (some ⟨b, 0, none⟩))) (w.alloc (.cells C t))) : wpList P ops Q (op :: rest) a w :=
  wpList_alloc_big hgd t ho C hz (by rw [hb]; exact h)
end Go.Proofs.YtophgbjbinaekaaGreatDoor
