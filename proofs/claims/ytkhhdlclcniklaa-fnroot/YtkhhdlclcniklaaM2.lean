/- Texts of this claim, one behind the other: RootOk, ReadDisk, DigWalk, RootSpec, RootTextSpec, NumWalk, App, ReadExt, ReadRoot, ReadSpec, RootMath. -/
import Derived.Deep.RegionHeld3
import Derived.Laws.IdiomStrings
import Derived.Deep.DrawnRows
import Derived.IntWalk
import Derived.Deep.QuietTactic
import Derived.BigQuiet
import Derived.Test.YtkhhdlclcniklaaRows
import Derived.Laws.AppendOwn
import Derived.OwnWalk
import Derived.Deep.RegionLaw
import Derived.Test.YtkhhdlclcniklaaM1
/- Contracts of both RootOK and of what they call. -/
namespace Go.Proofs.Ytkhhdlclcniklaa
open Go.RowKit

def pageB (z : Int) : Bool := decide (2 ≤ z ∧ z ≤ 47)
/-- Whether a root is valid. -/
def rootB (g : Int) (zs : List Int) : Bool := decide (1 ≤ g ∧ g ≤ 999999) && decide (zs.length = 17) && zs.all pageB && decide zs.Nodup

set_option maxRecDepth 100000 in
theorem isPage (z : Int) (w : World) : Calls Try.prog 88 #[.int .i64 z] w fun e w' => e = .returned (.bool (pageB z)) ∧ w = w' := by
  by_cases h1 : 2 ≤ z
  · by_cases h2 : z < 48
    · have HF : Hid (pageB z = true) := Lib.hid (by unfold pageB; simp; omega)
      go_enter Try.func88, Try.ntmps88
      go_wp2
      go_ret
      exact ⟨ret_bool (by rw [HF.out]), rfl⟩
    · have HF : Hid (pageB z = false) := Lib.hid (by unfold pageB; simp; omega)
      go_enter Try.func88, Try.ntmps88
      go_wp2
      go_ret
      exact ⟨ret_bool (by rw [HF.out]), rfl⟩
  · have HF : Hid (pageB z = false) := Lib.hid (by unfold pageB; simp; omega)
    go_enter Try.func88, Try.ntmps88
    go_wp2
    go_ret
    exact ⟨ret_bool (by rw [HF.out]), rfl⟩

def inB (lo hi z : Int) : Bool := decide (lo ≤ z ∧ z ≤ hi)
set_option maxRecDepth 100000 in
theorem l01InG (z lo hi : Int) (w : World) : Calls Try.prog 64 #[.int .i64 z, .int .i64 lo, .int .i64 hi] w fun e w' => e = .returned (.bool (inB lo hi z)) ∧ w = w' := by
  go_enter Try.func64, Try.ntmps64
  go_wp2
  all_goals go_ret
  all_goals (refine ⟨ret_bool ?_, rfl⟩)
  all_goals (unfold inB; rw [Bool.eq_iff_iff]; simp; try omega)

set_option maxRecDepth 100000 in
theorem l02Page (z : Int) (w : World) : Calls Try.prog 91 #[.int .i64 z] w fun e w' => e = .returned (.bool (pageB z)) ∧ w = w' := by
  have HC := Lib.hid (l01InG z 2 47)
  go_enter Try.func91, Try.ntmps91
  go_wp2_with fail
  refine (HC.out _).mono ?_
  rintro e w' ⟨rfl, rfl⟩
  generalize hq : inB 2 47 z = q
  have HQ := Lib.hid hq
  clear hq
  go_wp2
  go_ret
  exact ⟨ret_bool HQ.out.symm, rfl⟩

/-- The call hands back a set of its own. -/
def GivesSet (ks : List Int) (w : World) (e : Ending) (w' : World) : Prop := ∃ b, e = .returned (.map (some b)) ∧ w.heap.size ≤ b ∧ Hid (SetI w' b ks) ∧ Below w.heap.size w w'

set_option maxRecDepth 100000 in
set_option maxHeartbeats 1000000 in
theorem usedSectors (A : Option Addr) (n c : Nat) (zs : List Int) (w : World) (hl : zs.length = n) (hn : n ≤ maxLen) (h : IntL w A zs) :
    Calls Try.prog 89 #[.slice A n c] w (GivesSet (keysOf zs) w) := by
  unfold maxLen at hn
  have HL := Lib.hid hl
  have H := Lib.hid h
  have hmm := fun t w => run_makeMap (P := Try.prog) t w
  clear hl h
  go_enter Try.func89, Try.ntmps89
  go_wp2
  clear hmm
  have hb0 := alloc_below w (.map #[] 0)
  have hs0 := Lib.hid (SetI.made w)
  generalize w.alloc (.map #[] 0) = wa at hb0 hs0 ⊢
  go_loopw [9] (fun i wr => ∃ k : Nat, k ≤ n ∧ i = .int .i64 k ∧ Below w.heap.size w wr ∧ Hid (SetI wr w.heap.size (keysOf (zs.take k)))) (fun i _ => n - (intOf i).toNat)
  case atStart => exact ⟨0, Nat.zero_le _, rfl, hb0, hs0⟩
  case round =>
    obtain ⟨k, hk, rfl, hbw, HS⟩ := hrel
    by_cases hlt : k < n
    · obtain ⟨b, off, rfl, hc⟩ := (H.out.below hbw) k (by rw [HL.out]; exact hlt)
      have HK := Lib.hid (keysOf_step zs k (by rw [HL.out]; exact hlt))
      generalize zs.getD k 0 = z at hc HK
      have hi : (k : Int) < (n : Int) := by omega
      go_wp2_with (first | (at_mapUpdate; refine wpList_set_add _ rfl _ _ _ 108 rfl 3 4 Try.underlying108 Try.underlying3 w.heap.size (keysOf (zs.take k)) z rfl rfl rfl HS.out ?_; intro w1 hs1 hg1))
      go_roundw
      case rel => exact ⟨k + 1, by omega, by go_num, hbw.grown hg1 hbw.size (fun j hj => by cases hj; exact Nat.le_refl _), Lib.hid (by rw [HK.out]; exact hs1)⟩
      case measure => simp [intOf]; omega
    · go_wp2
      go_ret
      exact ⟨_, rfl, Nat.le_refl _, Lib.hid (by have := HS.out; rwa [List.take_of_length_le (by rw [HL.out]; omega)] at this), hbw⟩

theorem rootB_no {g : Int} {zs : List Int} (h : ¬ (1 ≤ g ∧ g ≤ 999999) ∨ zs.length ≠ 17) : rootB g zs = false := by
  unfold rootB
  rcases h with h | h
  · rw [show decide (1 ≤ g ∧ g ≤ 999999) = false by simpa using h]; rfl
  · rw [show decide (zs.length = 17) = false by simpa using h]; simp
theorem rootB_yes {g : Int} {zs : List Int} (h : 1 ≤ g ∧ g ≤ 999999) (h2 : zs.length = 17) : rootB g zs = (zs.all pageB && decide zs.Nodup) := by
  unfold rootB
  rw [show decide (1 ≤ g ∧ g ≤ 999999) = true by simpa using h, show decide (zs.length = 17) = true by simpa using h2]; simp
theorem nodup_len (zs : List Int) (h : zs.length = 17) : (((keysOf zs).length : Int) == 17) = decide zs.Nodup := by
  have := (keysOf_len zs).2
  rw [h] at this
  by_cases hn : zs.Nodup
  · have e := this.2 hn
    rw [e]; simp [hn]
  · have : (keysOf zs).length ≠ 17 := fun q => hn (this.1 q)
    simp [hn]; omega

set_option maxRecDepth 100000 in
set_option maxHeartbeats 1000000 in
theorem rootValid (g : Int) (A : Option Addr) (n c : Nat) (zs : List Int) (w : World) (hl : zs.length = n) (hn : n ≤ maxLen) (h : IntL w A zs) :
    Calls Try.prog 46 #[.agg #[.int .i64 g, .slice A n c]] w fun e w' => e = .returned (.bool (rootB g zs)) ∧ Below w.heap.size w w' := by
  have hb0 := alloc_below w (.cells #[.int .i64 g, .slice A n c] 25)
  by_cases h1 : 1 ≤ g ∧ g ≤ 999999
  · by_cases h2 : n = 17
    · obtain ⟨g1, g2⟩ := h1
      have HV := Lib.hid (rootB_yes (zs := zs) ⟨g1, g2⟩ (hl.trans h2))
      have HU := Lib.hid (usedSectors A n c zs _ hl hn (h.below hb0))
      have HN := Lib.hid (nodup_len zs (hl.trans h2))
      have HL := Lib.hid hl
      have H := Lib.hid (h.below hb0)
      have X := Box.new w 25 #[.int .i64 g, .slice A n c]
      have f1 := X.cell 1 rfl
      have q1 : ¬ g < 1 := by omega
      have q2 : ¬ 999999 < g := by omega
      have q3 : ((n : Int) != 17) = false := by rw [h2]; rfl
      have q4 : n ≤ 17 := by omega
      clear h hl hn h2
      go_enter Try.func46, Try.ntmps46
      go_wp2
      go_loop [22] (fun i => ∃ k : Nat, k ≤ n ∧ i = .int .i64 k ∧ Hid (zs.all pageB = (zs.drop k).all pageB)) (fun i => n - (intOf i).toNat)
      case atStart => exact ⟨0, Nat.zero_le _, rfl, Lib.hid rfl⟩
      case round =>
        obtain ⟨k, hk, rfl, HT⟩ := hrel
        by_cases hlt : k < n
        · obtain ⟨b, off, rfl, hc⟩ := H.out k (by rw [HL.out]; exact hlt)
          have HS := Lib.hid (all_step pageB zs 0 k (by rw [HL.out]; exact hlt))
          generalize zs.getD k 0 = z at hc HS
          have hi : (k : Int) < (n : Int) := by omega
          have HC := Lib.hid (fun W => isPage z W)
          by_cases hE : pageB z = true
          · go_wp2_with (first | (go_at_call 88; refine (HC.out _).mono ?_; rintro e w' ⟨rfl, rfl⟩))
            go_round
            case rel => exact ⟨k + 1, by omega, by go_num, Lib.hid (by rw [HT.out, HS.out, hE]; rfl)⟩
            case measure => simp [intOf]; omega
          · have hE' : pageB z = false := by simpa using hE
            clear hE
            go_wp2_with (first | (go_at_call 88; refine (HC.out _).mono ?_; rintro e w' ⟨rfl, rfl⟩))
            go_ret
            exact ⟨ret_bool (by rw [HV.out, HT.out, HS.out, hE']; rfl), hb0⟩
        · go_wp2_with fail
          refine HU.out.mono ?_
          rintro e w1 ⟨b, rfl, hbb, HS, hb1⟩
          have hlen := run_set_len (P := Try.prog) Try.underlying108 HS.out 3
          generalize hq : (((keysOf zs).length : Int) == 17) = q at HN
          generalize (keysOf zs).length = m at hlen hq
          go_wp2
          go_ret
          refine ⟨ret_bool ?_, bt hb0 hb1⟩
          rw [HV.out, HT.out, all_end _ _ _ (by rw [HL.out]; omega), ← HN.out]
          exact (Bool.true_and _).symm
    · have HV := Lib.hid (rootB_no (g := g) (zs := zs) (.inr (by omega)))
      have q1 : ¬ g < 1 := by omega
      have q2 : ¬ 999999 < g := by omega
      have q3 : ((n : Int) != 17) = true := by simp; omega
      clear h hl hn
      go_enter Try.func46, Try.ntmps46
      go_wp2
      go_ret
      exact ⟨ret_bool HV.out.symm, hb0⟩
  · have HV := Lib.hid (rootB_no (g := g) (zs := zs) (.inl h1))
    clear h hl hn
    by_cases q1 : g < 1
    · clear h1
      go_enter Try.func46, Try.ntmps46
      go_wp2
      go_ret
      exact ⟨ret_bool HV.out.symm, hb0⟩
    · have q2 : 999999 < g := by omega
      clear h1
      go_enter Try.func46, Try.ntmps46
      go_wp2
      go_ret
      exact ⟨ret_bool HV.out.symm, hb0⟩

set_option maxRecDepth 100000 in
theorem implRootOK (g : Int) (A : Option Addr) (n c : Nat) (zs : List Int) (w : World) (hl : zs.length = n) (hn : n ≤ maxLen) (h : IntL w A zs) :
    Calls Try.prog 15 #[.agg #[.int .i64 g, .slice A n c]] w fun e w' => e = .returned (.bool (rootB g zs)) ∧ Below w.heap.size w w' := by
  have hb0 := alloc_below w (.cells #[.int .i64 g, .slice A n c] 25)
  have HC := Lib.hid (rootValid g A n c zs _ hl hn (h.below hb0))
  clear h hl hn
  go_enter Try.func15, Try.ntmps15
  go_wp2_with fail
  refine HC.out.mono ?_
  rintro e w1 ⟨rfl, hb1⟩
  generalize hq : rootB g zs = q
  have HQ := Lib.hid hq
  clear hq
  go_wp2
  go_ret
  exact ⟨ret_bool HQ.out.symm, bt hb0 hb1⟩

set_option maxRecDepth 100000 in
theorem l02In (A : Option Addr) (n c : Nat) (zs : List Int) (z : Int) (w : World) (hl : zs.length = n) (hn : n ≤ maxLen) (h : IntL w A zs) :
    Calls Try.prog 92 #[.slice A n c, .int .i64 z] w fun e w' => e = .returned (.bool (decide (z ∈ zs))) ∧ w = w' := by
  unfold maxLen at hn
  have HL := Lib.hid hl
  have H := Lib.hid h
  clear hl h
  go_enter Try.func92, Try.ntmps92
  go_wp2
  go_loop [5] (fun i => ∃ k : Nat, k ≤ n ∧ i = .int .i64 k ∧ Hid (z ∉ zs.take k)) (fun i => n - (intOf i).toNat)
  case atStart => exact ⟨0, Nat.zero_le _, rfl, Lib.hid (by simp)⟩
  case round =>
    obtain ⟨k, hk, rfl, HT⟩ := hrel
    by_cases hlt : k < n
    · obtain ⟨b, off, rfl, hc⟩ := H.out k (by rw [HL.out]; exact hlt)
      have HS : Hid (∀ x, zs.getD k 0 = x → (x = z → z ∈ zs) ∧ (x ≠ z → z ∉ zs.take (k + 1))) := Lib.hid (fun x hx => by
        have hk' : k < zs.length := by rw [HL.out]; exact hlt
        rw [List.getD_eq_getElem?_getD, List.getElem?_eq_getElem hk', Option.getD_some] at hx
        refine ⟨fun q => by rw [← q, ← hx]; exact List.getElem_mem _, fun q => ?_⟩
        rw [List.take_succ_eq_append_getElem hk', hx, List.mem_append]
        rintro (p | p)
        · exact HT.out p
        · simp at p; exact q p.symm)
      generalize hx : zs.getD k 0 = x at hc
      have HX := Lib.hid hx
      clear hx
      have hi : (k : Int) < (n : Int) := by omega
      by_cases hE : x = z
      · have hq : (x == z) = true := by simp [hE]
        have HE := Lib.hid hE
        clear hE
        go_wp2
        go_ret
        exact ⟨ret_bool (by simp [(HS.out x HX.out).1 HE.out]), rfl⟩
      · have hq : (x == z) = false := by simp [hE]
        have HE := Lib.hid hE
        clear hE
        go_wp2
        go_round
        case rel => exact ⟨k + 1, by omega, by go_num, Lib.hid ((HS.out x HX.out).2 HE.out)⟩
        case measure => simp [intOf]; omega
    · go_wp2
      go_ret
      have ht := HT.out
      rw [List.take_of_length_le (by rw [HL.out]; omega)] at ht
      exact ⟨ret_bool (by simp [ht]), rfl⟩

theorem take_reads {w : World} {A : Option Addr} {zs : List Int} (h : IntL w A zs) (k : Nat) : IntL w A (zs.take k) := fun i hi => by
  simp at hi
  obtain ⟨b, off, e, hc⟩ := h i (by omega)
  refine ⟨b, off, e, ?_⟩
  rw [hc, List.getD_eq_getElem?_getD, List.getD_eq_getElem?_getD, List.getElem?_take_of_lt (by omega)]

/-- The first k of a table are on pages, no two of them the same. -/
def goodK (zs : List Int) (k : Nat) : Bool := (zs.take k).all pageB && decide (zs.take k).Nodup
theorem goodK_step (zs : List Int) (k : Nat) (h : k < zs.length) : goodK zs (k + 1) = (goodK zs k && (pageB (zs.getD k 0) && !decide (zs.getD k 0 ∈ zs.take k))) := by
  unfold goodK
  rw [List.take_succ_eq_append_getElem h, List.getD_eq_getElem?_getD, List.getElem?_eq_getElem h, Option.getD_some]
  rw [List.all_append, Bool.eq_iff_iff]
  simp only [Bool.and_eq_true, decide_eq_true_eq, List.all_cons, List.all_nil, List.nodup_append, Bool.not_eq_true', decide_eq_false_iff_not]
  constructor
  · rintro ⟨⟨a, b, _⟩, c, _, d⟩
    exact ⟨⟨a, c⟩, b, fun q => d _ q _ (by simp) rfl⟩
  · rintro ⟨⟨a, c⟩, b, d⟩
    exact ⟨⟨a, b, trivial⟩, c, by simp, fun x hx y hy q => by simp at hy; subst hy; subst q; exact d hx⟩
theorem goodK_all (zs : List Int) (k : Nat) (h : zs.length ≤ k) : goodK zs k = (zs.all pageB && decide zs.Nodup) := by
  unfold goodK; rw [List.take_of_length_le h]
theorem goodK_no (zs : List Int) (k : Nat) (h : goodK zs k = false) : (zs.all pageB && decide zs.Nodup) = false := by
  cases hx : (zs.all pageB && decide zs.Nodup) with
  | false => rfl
  | true =>
    rw [Bool.and_eq_true, List.all_eq_true, decide_eq_true_eq] at hx
    rw [← h]
    unfold goodK
    symm
    rw [Bool.and_eq_true, List.all_eq_true, decide_eq_true_eq]
    exact ⟨fun x q => hx.1 x (List.mem_of_mem_take q), hx.2.sublist (List.take_sublist _ _)⟩
end Go.Proofs.Ytkhhdlclcniklaa

/- Contracts of l01Read and of both ReadDisk. -/
namespace Go.Proofs.Ytkhhdlclcniklaa
open Go.RowKit

/-- The last of the first k writes to a sector. -/
def down (ws : List (Int × ByteArray)) (at_ : Int) : Nat → Option ByteArray
  | 0 => none
  | k + 1 => if (ws.getD k (0, ByteArray.empty)).1 = at_ then some (ws.getD k (0, ByteArray.empty)).2 else down ws at_ k
def readS (ss : List ByteArray) (ws : List (Int × ByteArray)) (at_ : Int) : ByteArray :=
  match down ws at_ ws.length with
  | some s => s
  | none => ss.getD at_.toNat ByteArray.empty
theorem readS_hit {ss : List ByteArray} {ws : List (Int × ByteArray)} {at_ : Int} {m : Nat} {s : ByteArray} (hm : ws.length = m) (h : down ws at_ m = some s) : readS ss ws at_ = s := by unfold readS; rw [hm, h]
theorem readS_miss {ss : List ByteArray} {ws : List (Int × ByteArray)} {at_ : Int} {m : Nat} (hm : ws.length = m) (h : down ws at_ m = none) : readS ss ws at_ = ss.getD at_.toNat ByteArray.empty := by unfold readS; rw [hm, h]
theorem down_step (ws : List (Int × ByteArray)) (at_ : Int) (j : Nat) : down ws at_ ((j : Int) + 1).toNat = if (ws.getD j (0, ByteArray.empty)).1 = at_ then some (ws.getD j (0, ByteArray.empty)).2 else down ws at_ j := by
  rw [show ((j : Int) + 1).toNat = j + 1 by omega]; rfl

theorem ret_str {a b : ByteArray} (h : a = b) : Ending.returned (.string a) = .returned (.string b) := by rw [h]
theorem ret_str_int {a b : ByteArray} {x y : Int} (h : a = b) (k : x = y) : Ending.returned (.tuple #[.string a, .int .i64 x]) = .returned (.tuple #[.string b, .int .i64 y]) := by rw [h, k]

set_option maxRecDepth 100000 in
set_option maxHeartbeats 2000000 in
theorem l01Read (A C : Option Addr) (n c m d : Nat) (ss : List ByteArray) (ws : List (Int × ByteArray)) (k : Nat) (w : World) (hl : ss.length = n) (hm : ws.length = m) (_hn : n ≤ maxLen) (hmm : m ≤ maxLen) (h : StrL w A ss) (g : WrL w C ws) (hk : k < n) :
    Calls Try.prog 116 #[.agg #[.slice A n c, .slice C m d], .int .i64 k] w fun e w' => e = .returned (.string (readS ss ws k)) ∧ Below w.heap.size w w' := by
  unfold maxLen at hmm
  have hb0 : Below w.heap.size w (w.alloc (.cells #[.slice A n c, .slice C m d] 38)) := (Below.refl _ _).alloc (Nat.le_refl _) _
  have HL := Lib.hid hl
  have HM := Lib.hid hm
  have H := Lib.hid (h.below hb0)
  have G := Lib.hid (g.below hb0)
  clear hl hm h g
  have hk' : (k : Int) < (n : Int) := by omega
  go_enter Try.func116, Try.ntmps116
  go_wp2
  go_loop [5] (fun i => ∃ z : Int, i = .int .i64 z ∧ -1 ≤ z ∧ z < m ∧ Hid (down ws k m = down ws k (z + 1).toNat)) (fun i => (intOf i + 1).toNat)
  case atStart => exact ⟨_, rfl, by omega, by omega, Lib.hid (by rw [show ((m : Int) - 1 + 1).toNat = m by omega])⟩
  case round =>
    obtain ⟨z, rfl, hz1, hz2, HT⟩ := hrel
    by_cases hz : 0 ≤ z
    · obtain ⟨j, rfl⟩ : ∃ j : Nat, z = j := ⟨z.toNat, by omega⟩
      obtain ⟨b, off, rfl, hc, hd⟩ := G.out j (by rw [HM.out]; omega)
      have HS := Lib.hid (down_step ws k j)
      generalize ws.getD j (0, ByteArray.empty) = x at hc hd HS
      obtain ⟨x1, x2⟩ := x
      simp only at hc hd
      have hi : (j : Int) < (m : Int) := hz2
      by_cases hE : x1 = (k : Int)
      · have hq : (x1 == (k : Int)) = true := by simp [hE]
        have HE := Lib.hid hE
        clear hE
        go_wp2
        go_ret
        exact ⟨ret_str (readS_hit HM.out (by rw [HT.out, HS.out]; simp [HE.out])).symm, hb0⟩
      · have hq : (x1 == (k : Int)) = false := by simp [hE]
        have HE := Lib.hid hE
        clear hE
        go_wp2
        go_round
        case rel => exact ⟨_, rfl, by omega, by omega, Lib.hid (by rw [HT.out, HS.out, if_neg HE.out, show ((j : Int) - 1 + 1).toNat = j by omega])⟩
        case measure => simp [intOf]
    · obtain ⟨b, off, rfl, hc⟩ := H.out k (by rw [HL.out]; exact hk)
      have HF := Lib.hid (readS_miss (ss := ss) HM.out (by rw [HT.out, show (z + 1).toNat = 0 by omega]; rfl))
      have hz' : z < 0 := by omega
      go_wp2
      go_ret
      exact ⟨ret_str (by rw [HF.out]; rfl), hb0⟩

set_option maxRecDepth 100000 in
set_option maxHeartbeats 2000000 in
theorem content (A C : Option Addr) (n c m d : Nat) (ss : List ByteArray) (ws : List (Int × ByteArray)) (k : Nat) (w : World) (hl : ss.length = n) (hm : ws.length = m) (_hn : n ≤ maxLen) (hmm : m ≤ maxLen) (h : StrL w A ss) (g : WrL w C ws) (hk : k < n) :
    Calls Try.prog 99 #[.agg #[.slice A n c, .slice C m d], .int .i64 k] w fun e w' => e = .returned (.string (readS ss ws k)) ∧ Below w.heap.size w w' := by
  unfold maxLen at hmm
  have hb0 : Below w.heap.size w (w.alloc (.cells #[.slice A n c, .slice C m d] 38)) := (Below.refl _ _).alloc (Nat.le_refl _) _
  have HL := Lib.hid hl
  have HM := Lib.hid hm
  have H := Lib.hid (h.below hb0)
  have G := Lib.hid (g.below hb0)
  clear hl hm h g
  have hk' : (k : Int) < (n : Int) := by omega
  go_enter Try.func99, Try.ntmps99
  go_wp2
  go_loop [5] (fun i => ∃ z : Int, i = .int .i64 z ∧ -1 ≤ z ∧ z < m ∧ Hid (down ws k m = down ws k (z + 1).toNat)) (fun i => (intOf i + 1).toNat)
  case atStart => exact ⟨_, rfl, by omega, by omega, Lib.hid (by rw [show ((m : Int) - 1 + 1).toNat = m by omega])⟩
  case round =>
    obtain ⟨z, rfl, hz1, hz2, HT⟩ := hrel
    by_cases hz : 0 ≤ z
    · obtain ⟨j, rfl⟩ : ∃ j : Nat, z = j := ⟨z.toNat, by omega⟩
      obtain ⟨b, off, rfl, hc, hd⟩ := G.out j (by rw [HM.out]; omega)
      have HS := Lib.hid (down_step ws k j)
      generalize ws.getD j (0, ByteArray.empty) = x at hc hd HS
      obtain ⟨x1, x2⟩ := x
      simp only at hc hd
      have hi : (j : Int) < (m : Int) := hz2
      by_cases hE : x1 = (k : Int)
      · have hq : (x1 == (k : Int)) = true := by simp [hE]
        have HE := Lib.hid hE
        clear hE
        go_wp2
        go_ret
        exact ⟨ret_str (readS_hit HM.out (by rw [HT.out, HS.out]; simp [HE.out])).symm, hb0⟩
      · have hq : (x1 == (k : Int)) = false := by simp [hE]
        have HE := Lib.hid hE
        clear hE
        go_wp2
        go_round
        case rel => exact ⟨_, rfl, by omega, by omega, Lib.hid (by rw [HT.out, HS.out, if_neg HE.out, show ((j : Int) - 1 + 1).toNat = j by omega])⟩
        case measure => simp [intOf]
    · obtain ⟨b, off, rfl, hc⟩ := H.out k (by rw [HL.out]; exact hk)
      have HF := Lib.hid (readS_miss (ss := ss) HM.out (by rw [HT.out, show (z + 1).toNat = 0 by omega]; rfl))
      have hz' : z < 0 := by omega
      go_wp2
      go_ret
      exact ⟨ret_str (by rw [HF.out]; rfl), hb0⟩

/-- What ReadDisk answers. -/
def readOf (ss : List ByteArray) (ws : List (Int × ByteArray)) (a : Int) : ByteArray × Int :=
  if okDisk ss ws = true then (if secB a = true then (readS ss ws a, 0) else (ByteArray.empty, 4)) else (ByteArray.empty, 1)
theorem secB_lt {a : Int} (h : secB a = true) : 0 ≤ a ∧ a ≤ 47 := by unfold secB at h; simpa using h
theorem okDisk_len {ss : List ByteArray} {ws : List (Int × ByteArray)} (h : okDisk ss ws = true) : ss.length = 48 ∧ ws.length ≤ 60 := by unfold okDisk at h; simp at h; exact h.1

end Go.Proofs.Ytkhhdlclcniklaa

/- Contracts of the digits' functions: l00Digits, l02Digits, digitsOf. -/
namespace Go.Proofs.Ytkhhdlclcniklaa
open Go.RowKit

set_option maxRecDepth 100000 in
theorem conv_dig (W : World) (b j : Nat) (h : W.cell? ⟨b, 0, none⟩ = some (.int .u8 (48 + (j : Int) % 10))) :
    (convert 22 9 (.slice (some ⟨b, 0, none⟩) 1 1)).run Try.prog W = .ok (.string (bs [dg j])) W :=
  run_convert_bytes_back (P := Try.prog) W 22 9 5 ⟨b, 0, none⟩ 1 [dg j] Try.underlying22 Try.underlying5 Try.underlying9 (fun i hi => by
    have hi' : i = 0 := by simpa using hi
    subst hi'
    simp only [List.getElem_cons_zero]
    rw [dg_nat]
    simpa [Addr.add] using h)
set_option maxRecDepth 100000 in
theorem conv_new (V : World) (j : Nat) : (convert 22 9 (.slice (some ⟨V.heap.size, 0, none⟩) 1 1)).run Try.prog (V.alloc (.cells #[.int .u8 (48 + (j : Int) % 10)] 5)) = .ok (.string (bs [dg j])) (V.alloc (.cells #[.int .u8 (48 + (j : Int) % 10)] 5)) :=
  conv_dig _ _ j ((Box.new V 5 #[.int .u8 (48 + (j : Int) % 10)]).cell 0 rfl)

set_option maxRecDepth 100000 in
set_option maxHeartbeats 1000000 in
theorem l00Digits : ∀ (f n : Nat) (w : World), n < 10 ^ (f + 1) → f ≤ 17 → Calls Try.prog 121 #[.int .i64 n] w fun e w' => e = .returned (.string (bs (decF (f + 1) n))) ∧ Below w.heap.size w w'
  | f, n, w, h, hf => by
    have hbig : n < 1000000000000000000 := Nat.lt_of_lt_of_le h (Nat.le_trans (Nat.pow_le_pow_right (by omega) (show f + 1 ≤ 18 by omega)) (by decide))
    have q0 : ((n : Int) == -9223372036854775808) = false := by simp
    have q1 : ¬ (n : Int) < 0 := by omega
    by_cases hn : n < 10
    · have q2 : (n : Int) < 10 := by omega
      have hm : (n : Int) % 10 = (n : Int) := by omega
      have HD : Hid (decF (f + 1) n = [dg n]) := Lib.hid (by rw [decF, if_pos hn])
      have hcv := fun V => conv_new V n
      rw [hm] at hcv
      clear hm h
      go_enter Try.func121, Try.ntmps121
      go_wp2
      go_ret
      exact ⟨ret_str (by rw [HD.out]), alloc_below _ _⟩
    · have q2 : ¬ (n : Int) < 10 := by omega
      match f, h, hf with
      | 0, h, hf => exact absurd h (by simp; omega)
      | f + 1, h, hf =>
        have IH := Lib.hid (fun W => l00Digits f (n / 10) W (by rw [Nat.pow_succ] at h; omega) (by omega))
        have HD : Hid (decF (f + 1 + 1) n = decF (f + 1) (n / 10) ++ [dg n]) := Lib.hid (by rw [decF, if_neg hn])
        have HLn := Lib.hid (decF_len (f + 1) (n / 10))
        have hcv := fun V => conv_new V n
        have HC := Lib.hid (fun W b => conv_dig W b n)
        rw [show ((n / 10 : Nat) : Int) = (n : Int) / 10 by omega] at IH
        generalize decF (f + 1) (n / 10) = l at IH HD HLn
        clear h hn
        go_enter Try.func121, Try.ntmps121
        go_wp2
        have h6 : Below w.heap.size w w.drew := (Below.refl _ _).drew
        have e1 : IntKind.i64.wrap ((n : Int) / 10) = (n : Int) / 10 := IntWalk.i64_in _ (by omega)
        have e3 : IntKind.i64.wrap (48 + (n : Int) % 10) = 48 + (n : Int) % 10 := IntWalk.i64_in _ (by omega)
        have e4 : IntKind.u8.wrap (48 + (n : Int) % 10) = 48 + (n : Int) % 10 := IntWalk.u8_in _ (by omega)
        have e2 : (n : Int).tmod 10 = (n : Int) % 10 := Int.tmod_eq_emod_of_nonneg (by omega)
        have hnl : ¬ 9223372036854775807 < (bs l).size + (bs [dg n]).size := by have := HLn.out; rw [bs_size, bs_size]; simp; omega
        have hcv2 := conv_dig (w.alloc (.cells #[.int .u8 (48 + (n : Int) % 10)] 5)).drew w.heap.size n ((Box.new w 5 #[.int .u8 (48 + (n : Int) % 10)]).cell 0 rfl)
        go_region_with (first
          | (go_at_call 121; refine (IH.out (w.alloc (.cells #[.int .u8 (48 + (n : Int) % 10)] 5)).drew).mono ?_; rintro e w1 ⟨rfl, hb1⟩; have kb := bt ((alloc_below w _).drew) hb1; have kc := HC.out w1 w.heap.size ((hb1.cell (p := ⟨w.heap.size, 0, none⟩) (by simp)).trans ((Box.new w 5 #[.int .u8 (48 + (n : Int) % 10)]).cell 0 rfl)))
          | (go_at_call 121; refine (IH.out w.drew).mono ?_; rintro e w1 ⟨rfl, hb1⟩; have kb := bt h6 hb1))
        all_goals clear hcv hcv2
        all_goals go_wp2
        all_goals go_ret
        all_goals (refine ⟨ret_str (by rw [HD.out, ← bs_app]), ?_⟩)
        all_goals (first | exact kb | exact bt kb (alloc_below _ _))

set_option maxRecDepth 100000 in
set_option maxHeartbeats 1000000 in
theorem l02Digits (W n : Nat) (w : World) (h : n < 10 ^ (W + 1)) (hW : W ≤ 17) :
    Calls Try.prog 93 #[.int .i64 n, .int .i64 ((W + 1 : Nat) : Int)] w fun e w' => e = .returned (.string (bs (digs (W + 1) n))) ∧ Below w.heap.size w w' := by
  have HD := Lib.hid (l00Digits W n w h hW)
  have HP := Lib.hid (pad_dec W n h)
  have HLn := Lib.hid (decF_len (W + 1) n)
  generalize decF (W + 1) n = l at HD HP HLn
  generalize digs (W + 1) n = r at HP
  clear h
  go_enter Try.func93, Try.ntmps93
  go_wp2_with fail
  refine HD.out.mono ?_
  rintro e w1 ⟨rfl, hb1⟩
  go_wp2
  go_loop [5] (fun t => ∃ j : Nat, t = .string (bs (List.replicate j 48 ++ l)) ∧ j + l.length ≤ W + 1) (fun t => W + 1 - (match t with | .string s => s.size | _ => 0))
  case atStart => exact ⟨0, by simp, by have := HLn.out; omega⟩
  case round =>
    obtain ⟨j, rfl, hj⟩ := hrel
    have hsz : (bs (List.replicate j 48 ++ l)).size = j + l.length := by rw [bs_size]; simp
    by_cases hlt : j + l.length < W + 1
    · have hc : (((bs (List.replicate j 48 ++ l)).size : Nat) : Int) < ((W + 1 : Nat) : Int) := by rw [hsz]; omega
      have hnl : ¬ 9223372036854775807 < (⟨#[48]⟩ : ByteArray).size + (bs (List.replicate j 48 ++ l)).size := by rw [hsz]; show ¬ 9223372036854775807 < 1 + _; omega
      have HN : Hid ((⟨#[48]⟩ : ByteArray) ++ bs (List.replicate j 48 ++ l) = bs (List.replicate (j + 1) 48 ++ l)) := Lib.hid (by rw [List.replicate_succ]; exact bs_app [48] _)
      have HZ := Lib.hid hsz
      clear hsz
      generalize bs (List.replicate j 48 ++ l) = t at hc hnl HN HZ
      go_wp2
      refine ⟨⟨j + 1, by rw [HN.out], by omega⟩, ?_⟩
      show W + 1 - ((⟨#[48]⟩ : ByteArray) ++ t).size < W + 1 - t.size
      rw [ByteArray.size_append, HZ.out]
      show W + 1 - (1 + (j + l.length)) < _
      omega
    · have hc : ¬ (((bs (List.replicate j 48 ++ l)).size : Nat) : Int) < ((W + 1 : Nat) : Int) := by rw [hsz]; omega
      have HF : Hid (bs (List.replicate j 48 ++ l) = bs r) := Lib.hid (by rw [← HP.out, show W + 1 - l.length = j by omega])
      clear hsz
      generalize bs (List.replicate j 48 ++ l) = t at hc HF
      go_wp2
      go_ret
      exact ⟨ret_str HF.out, hb1⟩

theorem digs_split (W j n : Nat) (x : Nat) (hj : j < W) (_hx : x < W) :
    (if x = W - (j + 1) then Value.int .u8 (48 + ((n / 10 ^ j : Nat) : Int) % 10) else if W - j ≤ x then Value.int .u8 ((digs j n).getD (x - (W - j)) 0).toNat else .int .u8 0) =
    (if W - (j + 1) ≤ x then Value.int .u8 ((digs (j + 1) n).getD (x - (W - (j + 1))) 0).toNat else .int .u8 0) := by
  rw [digs_front]
  by_cases h1 : x = W - (j + 1)
  · rw [if_pos h1, if_pos (by omega), show x - (W - (j + 1)) = 0 by omega]
    simp only [List.getD_cons_zero]
    rw [dg_nat]
    rfl
  · rw [if_neg h1]
    by_cases h2 : W - j ≤ x
    · rw [if_pos h2, if_pos (by omega), show x - (W - (j + 1)) = (x - (W - j)) + 1 by omega]
      simp only [List.getD_cons_succ]
    · rw [if_neg h2, if_neg (by omega)]

set_option maxRecDepth 100000 in
theorem infoB : (Try.prog.info? 5).map (fun i => (i.zero, i.size, i.bytes)) = some (some (.int .u8 0), 1, 1) := by kernel_rfl

set_option maxRecDepth 100000 in
set_option maxHeartbeats 1000000 in
theorem digitsOf (W n : Nat) (w : World) (hn : n ≤ 1000000000000) (hW : W ≤ 17) :
    Calls Try.prog 90 #[.int .i64 n, .int .i64 (W : Int)] w fun e w' => e = .returned (.string (bs (digs W n))) ∧ Below w.heap.size w w' := by
  have hmk := fun V => run_make_row' (P := Try.prog) 22 5 (.int .u8 0) 1 Try.underlying22 infoB rfl .i64 .i64 W (by omega) (by omega) V
  go_enter Try.func90, Try.ntmps90
  go_wp2
  clear hmk
  have HR := Lib.hid (World.rowIs_made w (.int .u8 0) W 5)
  have hbel := alloc_below w (.cells (madeCells #[.int .u8 0] W) 5)
  generalize w.alloc (.cells (madeCells #[.int .u8 0] W) 5) = wa at hbel HR ⊢
  go_loopw [0, 6] (fun a i wr => ∃ j : Nat, j ≤ W ∧ i = .int .i64 ((W : Int) - 1 - (j : Int)) ∧ a = .int .i64 ((n / 10 ^ j : Nat) : Int) ∧ Below w.heap.size w wr ∧ Hid (wr.rowIs w.heap.size 5 W (fun x => if W - j ≤ x then .int .u8 ((digs j n).getD (x - (W - j)) 0).toNat else .int .u8 0))) (fun _ i _ => (intOf i + 1).toNat)
  case atStart => exact ⟨0, Nat.zero_le _, by simp, by simp, hbel, Lib.hid (HR.out.congr (fun x hx => by rw [if_neg (by omega)]))⟩
  case round =>
    obtain ⟨j, hj, rfl, rfl, hbw, HW⟩ := hrel
    have hq : n / 10 ^ j ≤ n := Nat.div_le_self _ _
    by_cases hlt : j < W
    · have hc := HW.out.cell (i := W - (j + 1)) (by omega)
      have hfz := HW.out.frozen (W - (j + 1))
      rw [if_neg (by omega)] at hc
      have HS := Lib.hid (HW.out.set (W - (j + 1)) (.int .u8 (48 + ((n / 10 ^ j : Nat) : Int) % 10)))
      have HX := Lib.hid (fun x hx => digs_split W j n x hlt hx)
      have HNx : Hid (n / 10 ^ (j + 1) = n / 10 ^ j / 10) := Lib.hid (by rw [Nat.pow_succ, Nat.div_div_eq_div_mul])
      generalize n / 10 ^ j = m at hq HS HX HNx
      obtain ⟨i, hi⟩ : ∃ i : Nat, i = W - (j + 1) := ⟨_, rfl⟩
      rw [← hi] at hc hfz HS
      have HI := Lib.hid hi
      have e1 : (W : Int) - 1 - (j : Int) = (i : Int) := by omega
      rw [e1]
      have hi1 : (i : Int) < (W : Int) := by omega
      clear hi e1 HW
      go_wp2
      refine ⟨⟨j + 1, by omega, ?_, ?_, hbw.setCell (Nat.le_refl _) _, Lib.hid (HS.out.congr (fun x hx => ?_))⟩, ?_⟩
      · have := HI.out; congr 1; omega
      · rw [HNx.out]; congr 1
      · rw [HI.out]; exact HX.out x hx
      · simp [intOf]
    · obtain rfl : j = W := by omega
      have hz : ¬ (0 : Int) ≤ (j : Int) - 1 - (j : Int) := by omega
      have hcv := run_convert_bytes_back (P := Try.prog) wr 22 9 5 ⟨w.heap.size, 0, none⟩ j (digs j n) Try.underlying22 Try.underlying5 Try.underlying9 (fun i hi => by
        have hi' : i < j := by rwa [digs_len] at hi
        have := HW.out.cell (i := i) hi'
        rw [if_pos (by omega), show i - (j - j) = i by omega, List.getD_eq_getElem?_getD, List.getElem?_eq_getElem hi, Option.getD_some] at this
        unfold Addr.add
        by_cases h0 : i = 0
        · subst h0; simpa using this
        · rw [if_neg h0]; simpa using this)
      rw [digs_len] at hcv
      have HF : Hid ((⟨(digs j n).toArray⟩ : ByteArray) = bs (digs j n)) := Lib.hid rfl
      generalize (⟨(digs j n).toArray⟩ : ByteArray) = t at hcv HF
      clear HW hq
      generalize n / 10 ^ j = m
      go_wp2
      go_ret
      exact ⟨ret_str HF.out, hbw⟩
end Go.Proofs.Ytkhhdlclcniklaa

/- The contract of spec.RootOK. -/
namespace Go.Proofs.Ytkhhdlclcniklaa
open Go.RowKit

theorem quiet_same {P : Program} {f : FuncId} {args : Array Value} {w : World} {n : Nat} {v : Value}
    (h : Calls P f args (w.drewN n) fun e w' => e = .returned v ∧ w.drewN n = w') : Calls P f args (w.drewN n) fun e w'' => e = .returned v ∧ ∃ m, w'' = w.drewN m :=
  h.mono fun _ _ ⟨he, hm⟩ => ⟨he, n, hm.symm⟩

set_option maxRecDepth 100000 in
set_option maxHeartbeats 2000000 in
theorem specRootOK (g : Int) (A : Option Addr) (n c : Nat) (zs : List Int) (w : World) (hl : zs.length = n) (_hn : n ≤ maxLen) (hcap : n ≤ c) (h : IntL w A zs) :
    Calls Try.prog 48 #[.agg #[.int .i64 g, .slice A n c]] w fun e w' => e = .returned (.bool (rootB g zs)) ∧ Below w.heap.size w w' := by
  have hb0 := alloc_below w (.cells #[.int .i64 g, .slice A n c] 25)
  by_cases h1 : inB 1 999999 g = true
  · have hg : 1 ≤ g ∧ g ≤ 999999 := by unfold inB at h1; simpa using h1
    have HI := Lib.hid h1
    by_cases h2 : n = 17
    · have HV := Lib.hid (rootB_yes (zs := zs) hg (hl.trans h2))
      have HL := Lib.hid hl
      have H := Lib.hid (h.below hb0)
      have X := Box.new w 25 #[.int .i64 g, .slice A n c]
      have q3 : ((n : Int) != 17) = false := by rw [h2]; rfl
      have q4 : n ≤ 17 := by omega
      have q5 : (n : Int) ≤ (c : Int) := by omega
      clear h hl h1 hg h2
      go_enter Try.func48, Try.ntmps48
      go_wp2_with fail
      refine (l01InG _ _ _ _).mono ?_
      rintro e w' ⟨rfl, rfl⟩
      rw [HI.out]
      go_wp2
      have F1 := Lib.hid (X.cell 1 rfl)
      generalize w.alloc (.cells #[.int .i64 g, .slice A n c] 25) = wa at hb0 H F1 ⊢
      go_loopw [3] (fun i wr => ∃ k : Nat, k ≤ n ∧ i = .int .i64 k ∧ Hid (goodK zs k = true) ∧ Below w.heap.size w wr ∧ Hid (IntL wr A zs) ∧ Hid (wr.cell? ⟨w.heap.size, 1, none⟩ = some (.slice A n c))) (fun i _ => n - (intOf i).toNat)
      case atStart => exact ⟨0, Nat.zero_le _, rfl, Lib.hid rfl, hb0, H, F1⟩
      case round =>
        clear F1 H hb0
        obtain ⟨k, hk, rfl, HT, hb0, H, F1⟩ := hrel
        have f1 := F1.out
        by_cases hlt : k < n
        · obtain ⟨b, off, rfl, hc⟩ := H.out k (by rw [HL.out]; exact hlt)
          have HS := Lib.hid (goodK_step zs k (by rw [HL.out]; exact hlt))
          have HIn := Lib.hid (fun W (hW : ∃ nq, W = wr.drewN nq) => l02In (some ⟨b, off, none⟩) k c (zs.take k) (zs.getD k 0) W (by rw [List.length_take, HL.out]; omega) (by unfold maxLen; omega) (by obtain ⟨nq, rfl⟩ := hW; exact take_reads H.out k))
          generalize zs.getD k 0 = z at hc HS HIn
          have hi : (k : Int) < (n : Int) := by omega
          have hi0 : (0 : Int) ≤ (k : Int) := by omega
          have hic : (k : Int) ≤ (c : Int) := by omega
          by_cases hE : pageB z = true
          · have HP := Lib.hid (fun W => l02Page z W)
            generalize hp : pageB z = pz at HP hE
            have HPz := Lib.hid hp
            subst hE
            clear hp
            by_cases hM : z ∈ zs.take k
            · have HM := Lib.hid hM
              generalize hd : decide (z ∈ zs.take k) = dz at HIn HS
              have HD : Hid (dz = true) := Lib.hid (by rw [← hd]; simpa using hM)
              rw [HD.out] at HIn
              clear hM hd
              go_wp2
              go_quiet (first | (go_at_call 91; exact quiet_same (HP.out _)) | (go_at_call 92; exact quiet_same (HIn.out _ ⟨_, rfl⟩)))
              go_wp2
              go_ret
              exact ⟨ret_bool (by rw [HV.out]; exact (goodK_no zs (k + 1) (by rw [HS.out, HD.out]; simp)).symm), below_drewN hb0 _⟩
            · have HM := Lib.hid hM
              generalize hd : decide (z ∈ zs.take k) = dz at HIn HS
              have HD : Hid (dz = false) := Lib.hid (by rw [← hd]; simpa using hM)
              rw [HD.out] at HIn
              clear hM hd
              go_wp2
              go_quiet (first | (go_at_call 91; exact quiet_same (HP.out _)) | (go_at_call 92; exact quiet_same (HIn.out _ ⟨_, rfl⟩)))
              go_wp2
              go_roundw
              case rel => exact ⟨k + 1, by omega, by go_num, Lib.hid (by rw [HS.out, HD.out, HPz.out, HT.out]; rfl), below_drewN hb0 _, Lib.hid H.out, Lib.hid F1.out⟩
              case measure => simp [intOf]; omega
          · have hE' : pageB z = false := by simpa using hE
            have HP := Lib.hid (fun W => l02Page z W)
            rw [hE'] at HP
            have HE := Lib.hid hE'
            clear hE hE' HIn
            go_wp2
            go_quiet (first | (go_at_call 91; exact quiet_same (HP.out _)))
            go_wp2
            go_ret
            exact ⟨ret_bool (by rw [HV.out]; exact (goodK_no zs (k + 1) (by rw [HS.out, HE.out]; simp)).symm), below_drewN hb0 _⟩
        · go_wp2
          go_ret
          exact ⟨ret_bool (by rw [HV.out, ← goodK_all zs k (by rw [HL.out]; omega), HT.out]), hb0⟩
    · have HV := Lib.hid (rootB_no (g := g) (zs := zs) (.inr (by omega)))
      have q3 : ((n : Int) != 17) = true := by simp; omega
      clear h hl h1 hg
      go_enter Try.func48, Try.ntmps48
      go_wp2_with fail
      refine (l01InG _ _ _ _).mono ?_
      rintro e w' ⟨rfl, rfl⟩
      rw [HI.out]
      go_wp2
      go_ret
      exact ⟨ret_bool HV.out.symm, hb0⟩
  · have HV := Lib.hid (rootB_no (g := g) (zs := zs) (.inl (by unfold inB at h1; simpa using h1)))
    have HI : Hid (inB 1 999999 g = false) := Lib.hid (by simpa using h1)
    clear h hl h1
    go_enter Try.func48, Try.ntmps48
    go_wp2_with fail
    refine (l01InG _ _ _ _).mono ?_
    rintro e w' ⟨rfl, rfl⟩
    rw [HI.out]
    go_wp2
    go_ret
    exact ⟨ret_bool HV.out.symm, hb0⟩
end Go.Proofs.Ytkhhdlclcniklaa

/- Contracts of the roots' texts: Root.text, l02Text, both RootText. -/
namespace Go.Proofs.Ytkhhdlclcniklaa
open Go.RowKit

def tabTx (zs : List Int) : List UInt8 := zs.flatMap fun z => digs 2 z.toNat
/-- The text of a root. -/
def rootTx (g : Int) (zs : List Int) : ByteArray := bs (digs 6 g.toNat ++ tabTx zs ++ digs 6 g.toNat)
theorem tabTx_step (zs : List Int) (k : Nat) (h : k < zs.length) : tabTx (zs.take (k + 1)) = tabTx (zs.take k) ++ digs 2 (zs.getD k 0).toNat := by
  unfold tabTx
  rw [List.take_succ_eq_append_getElem h, List.flatMap_append, List.getD_eq_getElem?_getD, List.getElem?_eq_getElem h]
  simp
theorem tabTx_len (zs : List Int) : (tabTx zs).length = 2 * zs.length := by
  induction zs with
  | nil => rfl
  | cons a r ih => unfold tabTx at ih ⊢; rw [List.flatMap_cons, List.length_append, ih, digs_len]; simp; omega

set_option maxRecDepth 100000 in
set_option maxHeartbeats 1000000 in
theorem rootText (g : Int) (A : Option Addr) (n c : Nat) (zs : List Int) (w : World) (hl : zs.length = n) (hn : n ≤ 17) (hg : 0 ≤ g ∧ g ≤ 999999) (hz : ∀ z ∈ zs, 0 ≤ z ∧ z ≤ 99) (h : IntL w A zs) :
    Calls Try.prog 47 #[.agg #[.int .i64 g, .slice A n c]] w fun e w' => e = .returned (.string (rootTx g zs)) ∧ Below w.heap.size w w' := by
  obtain ⟨gn, rfl⟩ : ∃ gn : Nat, g = gn := ⟨g.toNat, by omega⟩
  have hb0 := alloc_below w (.cells #[.int .i64 gn, .slice A n c] 25)
  have X := Box.new w 25 #[.int .i64 (gn : Int), .slice A n c]
  have HD6 := Lib.hid (fun W => digitsOf 6 gn W (by omega) (by omega))
  rw [show ((6 : Nat) : Int) = 6 from rfl] at HD6
  have HT : Hid (rootTx gn zs = bs (digs 6 gn ++ tabTx zs ++ digs 6 gn)) := Lib.hid (by unfold rootTx; rw [Int.toNat_natCast])
  have HLd := Lib.hid (digs_len 6 gn)
  generalize digs 6 gn = gd at HD6 HT HLd
  have HL := Lib.hid hl
  have H := Lib.hid h
  have HZ := Lib.hid hz
  clear hl h hz hg
  go_enter Try.func47, Try.ntmps47
  go_wp2_with fail
  refine (HD6.out _).mono ?_
  rintro e w1 ⟨rfl, hb1⟩
  have X1 := X.step hb1
  have f1 := X1.cell 1 rfl
  have hb := bt hb0 hb1
  clear hb0 hb1 X X1 HD6
  go_wp2
  go_loopw [14, 4] (fun i t wr => ∃ k : Nat, k ≤ n ∧ i = .int .i64 k ∧ t = .string (bs (gd ++ tabTx (zs.take k))) ∧ Below w.heap.size w wr) (fun i _ _ => n - (intOf i).toNat)
  case atStart => exact ⟨0, Nat.zero_le _, rfl, by simp [tabTx], hb⟩
  case round =>
    obtain ⟨k, hk, rfl, rfl, hbw⟩ := hrel
    have hsz : (bs (gd ++ tabTx (zs.take k))).size ≤ 40 := by
      rw [bs_size, List.length_append, HLd.out, tabTx_len, List.length_take]; omega
    by_cases hlt : k < n
    · obtain ⟨b, off, rfl, hc⟩ := (H.out.below hbw) k (by rw [HL.out]; exact hlt)
      have hzk : 0 ≤ zs.getD k 0 ∧ zs.getD k 0 ≤ 99 := HZ.out _ (by rw [List.getD_eq_getElem?_getD, List.getElem?_eq_getElem (by rw [HL.out]; exact hlt)]; exact List.getElem_mem _)
      have HS := Lib.hid (tabTx_step zs k (by rw [HL.out]; exact hlt))
      generalize zs.getD k 0 = z at hc HS hzk
      obtain ⟨zn, rfl⟩ : ∃ zn : Nat, z = zn := ⟨z.toNat, by omega⟩
      rw [Int.toNat_natCast] at HS
      have HD2 := Lib.hid (fun W => digitsOf 2 zn W (by omega) (by omega))
      rw [show ((2 : Nat) : Int) = 2 from rfl] at HD2
      have hs2 : (bs (digs 2 zn)).size = 2 := by rw [bs_size, digs_len]
      have HN : Hid (bs (gd ++ tabTx (zs.take k)) ++ bs (digs 2 zn) = bs (gd ++ tabTx (zs.take (k + 1)))) := Lib.hid (by rw [bs_app, HS.out, List.append_assoc])
      have hnl : ¬ 9223372036854775807 < (bs (gd ++ tabTx (zs.take k))).size + (bs (digs 2 zn)).size := by omega
      have hi : (k : Int) < (n : Int) := by omega
      clear hs2 hsz
      generalize bs (digs 2 zn) = d2 at HD2 HN hnl
      generalize bs (gd ++ tabTx (zs.take k)) = t at HN hnl
      go_wp2_with fail
      refine (HD2.out _).mono ?_
      rintro e w2 ⟨rfl, hb2⟩
      go_wp2
      go_roundw
      case rel => exact ⟨k + 1, by omega, by go_num, by rw [HN.out], bt hbw hb2⟩
      case measure => simp [intOf]; omega
    · have hs6 : (bs gd).size = 6 := by rw [bs_size, HLd.out]
      have HN : Hid (bs (gd ++ tabTx (zs.take k)) ++ bs gd = rootTx gn zs) := Lib.hid (by rw [bs_app, HT.out, List.take_of_length_le (by rw [HL.out]; omega)])
      have hnl : ¬ 9223372036854775807 < (bs (gd ++ tabTx (zs.take k))).size + (bs gd).size := by omega
      clear hs6 hsz
      generalize bs (gd ++ tabTx (zs.take k)) = t at HN hnl
      generalize bs gd = d6 at HN hnl
      go_wp2
      go_ret
      exact ⟨ret_str HN.out, hbw⟩
set_option maxRecDepth 100000 in
set_option maxHeartbeats 1000000 in
theorem l02Text (g : Int) (A : Option Addr) (n c : Nat) (zs : List Int) (w : World) (hl : zs.length = n) (hn : n ≤ 17) (hg : 0 ≤ g ∧ g ≤ 999999) (hz : ∀ z ∈ zs, 0 ≤ z ∧ z ≤ 99) (h : IntL w A zs) :
    Calls Try.prog 49 #[.agg #[.int .i64 g, .slice A n c]] w fun e w' => e = .returned (.string (rootTx g zs)) ∧ Below w.heap.size w w' := by
  obtain ⟨gn, rfl⟩ : ∃ gn : Nat, g = gn := ⟨g.toNat, by omega⟩
  have hb0 := alloc_below w (.cells #[.int .i64 gn, .slice A n c] 25)
  have X := Box.new w 25 #[.int .i64 (gn : Int), .slice A n c]
  have HD6 := Lib.hid (fun W => l02Digits 5 gn W (by omega) (by omega))
  rw [show ((5 + 1 : Nat) : Int) = 6 from rfl, show 5 + 1 = 6 from rfl] at HD6
  have HT : Hid (rootTx gn zs = bs (digs 6 gn ++ tabTx zs ++ digs 6 gn)) := Lib.hid (by unfold rootTx; rw [Int.toNat_natCast])
  have HLd := Lib.hid (digs_len 6 gn)
  generalize digs 6 gn = gd at HD6 HT HLd
  have HL := Lib.hid hl
  have H := Lib.hid h
  have HZ := Lib.hid hz
  clear hl h hz hg
  go_enter Try.func49, Try.ntmps49
  go_wp2_with fail
  refine (HD6.out _).mono ?_
  rintro e w1 ⟨rfl, hb1⟩
  have X1 := X.step hb1
  have HX1 := Lib.hid X1
  have hb := bt hb0 hb1
  clear hb0 hb1 X X1
  go_wp2
  go_loopw [4, 3] (fun i t wr => ∃ k : Nat, k ≤ n ∧ i = .int .i64 k ∧ t = .string (bs (gd ++ tabTx (zs.take k))) ∧ Below w.heap.size w wr ∧ Hid (Box wr w.heap.size 25 #[.int .i64 (gn : Int), .slice A n c])) (fun i _ _ => n - (intOf i).toNat)
  case atStart => exact ⟨0, Nat.zero_le _, rfl, by simp [tabTx], hb, HX1⟩
  case round =>
    obtain ⟨k, hk, rfl, rfl, hbw, HX⟩ := hrel
    have f0 := HX.out.cell 0 rfl
    have f1 := HX.out.cell 1 rfl
    have hsz : (bs (gd ++ tabTx (zs.take k))).size ≤ 40 := by
      rw [bs_size, List.length_append, HLd.out, tabTx_len, List.length_take]; omega
    by_cases hlt : k < n
    · obtain ⟨b, off, rfl, hc⟩ := (H.out.below hbw) k (by rw [HL.out]; exact hlt)
      have hzk : 0 ≤ zs.getD k 0 ∧ zs.getD k 0 ≤ 99 := HZ.out _ (by rw [List.getD_eq_getElem?_getD, List.getElem?_eq_getElem (by rw [HL.out]; exact hlt)]; exact List.getElem_mem _)
      have HS := Lib.hid (tabTx_step zs k (by rw [HL.out]; exact hlt))
      generalize zs.getD k 0 = z at hc HS hzk
      obtain ⟨zn, rfl⟩ : ∃ zn : Nat, z = zn := ⟨z.toNat, by omega⟩
      rw [Int.toNat_natCast] at HS
      have HD2 := Lib.hid (fun W => l02Digits 1 zn W (by omega) (by omega))
      rw [show ((1 + 1 : Nat) : Int) = 2 from rfl, show 1 + 1 = 2 from rfl] at HD2
      have hs2 : (bs (digs 2 zn)).size = 2 := by rw [bs_size, digs_len]
      have HN : Hid (bs (gd ++ tabTx (zs.take k)) ++ bs (digs 2 zn) = bs (gd ++ tabTx (zs.take (k + 1)))) := Lib.hid (by rw [bs_app, HS.out, List.append_assoc])
      have hnl : ¬ 9223372036854775807 < (bs (gd ++ tabTx (zs.take k))).size + (bs (digs 2 zn)).size := by omega
      have hi : (k : Int) < (n : Int) := by omega
      clear hs2 hsz
      generalize bs (digs 2 zn) = d2 at HD2 HN hnl
      generalize bs (gd ++ tabTx (zs.take k)) = t at HN hnl
      go_wp2_with fail
      refine (HD2.out _).mono ?_
      rintro e w2 ⟨rfl, hb2⟩
      go_wp2
      go_roundw
      case rel => exact ⟨k + 1, by omega, by go_num, by rw [HN.out], bt hbw hb2, Lib.hid (HX.out.step hb2)⟩
      case measure => simp [intOf]; omega
    · have hs6 : (bs gd).size = 6 := by rw [bs_size, HLd.out]
      have HN : Hid (bs (gd ++ tabTx (zs.take k)) ++ bs gd = rootTx gn zs) := Lib.hid (by rw [bs_app, HT.out, List.take_of_length_le (by rw [HL.out]; omega)])
      have hnl : ¬ 9223372036854775807 < (bs (gd ++ tabTx (zs.take k))).size + (bs gd).size := by omega
      clear hs6 hsz
      generalize bs (gd ++ tabTx (zs.take k)) = t at HN hnl
      generalize bs gd = d6 at HN hnl HD6
      go_wp2_with fail
      refine (HD6.out _).mono ?_
      rintro e w2 ⟨rfl, hb2⟩
      go_wp2
      go_ret
      exact ⟨ret_str HN.out, bt hbw hb2⟩

/-- What RootText answers. -/
def rtOf (g : Int) (zs : List Int) : ByteArray × Int := if rootB g zs = true then (rootTx g zs, 0) else (ByteArray.empty, 1)
theorem rootB_facts {g : Int} {zs : List Int} (h : rootB g zs = true) : (0 ≤ g ∧ g ≤ 999999) ∧ zs.length = 17 ∧ ∀ z ∈ zs, 0 ≤ z ∧ z ≤ 99 := by
  unfold rootB at h
  simp only [Bool.and_eq_true, decide_eq_true_eq, List.all_eq_true] at h
  obtain ⟨⟨⟨h1, h2⟩, h3⟩, _⟩ := h
  refine ⟨by omega, h2, fun z hz => ?_⟩
  have := h3 z hz
  unfold pageB at this
  simp only [decide_eq_true_eq] at this
  omega

set_option maxRecDepth 100000 in
set_option maxHeartbeats 1000000 in
theorem implRootText (g : Int) (A : Option Addr) (n c : Nat) (zs : List Int) (w : World) (hl : zs.length = n) (hn : n ≤ maxLen) (h : IntL w A zs) :
    Calls Try.prog 11 #[.agg #[.int .i64 g, .slice A n c]] w fun e w' => e = .returned (.tuple #[.string (rtOf g zs).1, .int .i64 (rtOf g zs).2]) ∧ Below w.heap.size w w' := by
  have hb0 := alloc_below w (.cells #[.int .i64 g, .slice A n c] 25)
  have HC := Lib.hid (rootValid g A n c zs _ hl hn (h.below hb0))
  have X := Box.new w 25 #[.int .i64 g, .slice A n c]
  by_cases hv : rootB g zs = true
  · have hF := rootB_facts hv
    have HT := Lib.hid (fun W (hb : Below w.heap.size w W) => rootText g A n c zs W hl (by rw [← hl, hF.2.1]; omega) hF.1 hF.2.2 (h.below hb))
    have HV : Hid (rtOf g zs = (rootTx g zs, 0)) := Lib.hid (by unfold rtOf; rw [if_pos hv])
    rw [hv] at HC
    generalize rootTx g zs = r at HT HV
    clear hl hn h hv hF
    go_enter Try.func11, Try.ntmps11
    go_wp2_with fail
    refine HC.out.mono ?_
    rintro e w1 ⟨rfl, hb1⟩
    have X1 := X.step hb1
    have f0 := X1.cell 0 rfl
    have f1 := X1.cell 1 rfl
    have hb := bt hb0 hb1
    clear hb0 hb1 X X1
    go_wp2_with fail
    refine (HT.out _ hb).mono ?_
    rintro e w2 ⟨rfl, hb2⟩
    go_wp2
    go_ret2
    exact ⟨ret_str_int (by rw [HV.out]) (by rw [HV.out]), bt hb hb2⟩
  · have hv' : rootB g zs = false := by simpa using hv
    have HV : Hid (rtOf g zs = (ByteArray.empty, 1)) := Lib.hid (by unfold rtOf; rw [if_neg hv])
    rw [hv'] at HC
    clear hl hn h hv hv'
    go_enter Try.func11, Try.ntmps11
    go_wp2_with fail
    refine HC.out.mono ?_
    rintro e w1 ⟨rfl, hb1⟩
    go_wp2
    go_ret2
    exact ⟨ret_str_int (by rw [HV.out]; rfl) (by rw [HV.out]), bt hb0 hb1⟩

set_option maxRecDepth 100000 in
set_option maxHeartbeats 1000000 in
theorem specRootText (g : Int) (A : Option Addr) (n c : Nat) (zs : List Int) (w : World) (hl : zs.length = n) (hn : n ≤ maxLen) (hcap : n ≤ c) (h : IntL w A zs) :
    Calls Try.prog 12 #[.agg #[.int .i64 g, .slice A n c]] w fun e w' => e = .returned (.tuple #[.string (rtOf g zs).1, .int .i64 (rtOf g zs).2]) ∧ Below w.heap.size w w' := by
  have hb0 := alloc_below w (.cells #[.int .i64 g, .slice A n c] 25)
  have HC := Lib.hid (specRootOK g A n c zs _ hl hn hcap (h.below hb0))
  have X := Box.new w 25 #[.int .i64 g, .slice A n c]
  by_cases hv : rootB g zs = true
  · have hF := rootB_facts hv
    have HT := Lib.hid (fun W (hb : Below w.heap.size w W) => l02Text g A n c zs W hl (by rw [← hl, hF.2.1]; omega) hF.1 hF.2.2 (h.below hb))
    have HV : Hid (rtOf g zs = (rootTx g zs, 0)) := Lib.hid (by unfold rtOf; rw [if_pos hv])
    rw [hv] at HC
    generalize rootTx g zs = r at HT HV
    clear hl hn hcap h hv hF
    go_enter Try.func12, Try.ntmps12
    go_wp2_with fail
    refine HC.out.mono ?_
    rintro e w1 ⟨rfl, hb1⟩
    have X1 := X.step hb1
    have f0 := X1.cell 0 rfl
    have f1 := X1.cell 1 rfl
    have hb := bt hb0 hb1
    clear hb0 hb1 X X1
    go_wp2_with fail
    refine (HT.out _ hb).mono ?_
    rintro e w2 ⟨rfl, hb2⟩
    go_wp2
    go_ret2
    exact ⟨ret_str_int (by rw [HV.out]) (by rw [HV.out]), bt hb hb2⟩
  · have hv' : rootB g zs = false := by simpa using hv
    have HV : Hid (rtOf g zs = (ByteArray.empty, 1)) := Lib.hid (by unfold rtOf; rw [if_neg hv])
    rw [hv'] at HC
    clear hl hn hcap h hv hv'
    go_enter Try.func12, Try.ntmps12
    go_wp2_with fail
    refine HC.out.mono ?_
    rintro e w1 ⟨rfl, hb1⟩
    go_wp2
    go_ret2
    exact ⟨ret_str_int (by rw [HV.out]; rfl) (by rw [HV.out]), bt hb0 hb1⟩
end Go.Proofs.Ytkhhdlclcniklaa

/- Contracts of the readers of digits: isDigit, l00Digit, allDigits, numberOf, l02Fixed. -/
namespace Go.Proofs.Ytkhhdlclcniklaa
open Go.RowKit

def digB (n : Int) : Bool := decide (48 ≤ n ∧ n ≤ 57)
set_option maxRecDepth 100000 in
theorem isDigit (n : Int) (w : World) : Calls Try.prog 94 #[.int .u8 n] w fun e w' => e = .returned (.bool (digB n)) ∧ w = w' := by
  go_enter Try.func94, Try.ntmps94
  go_wp2
  all_goals go_ret
  all_goals (refine ⟨ret_bool ?_, rfl⟩)
  all_goals (unfold digB; rw [Bool.eq_iff_iff]; simp; try omega)
set_option maxRecDepth 100000 in
theorem l00Digit (n : Int) (w : World) : Calls Try.prog 126 #[.int .u8 n] w fun e w' => e = .returned (.bool (digB n)) ∧ w = w' := by
  go_enter Try.func126, Try.ntmps126
  go_wp2
  all_goals go_ret
  all_goals (refine ⟨ret_bool ?_, rfl⟩)
  all_goals (unfold digB; rw [Bool.eq_iff_iff]; simp; try omega)

def digC (c : UInt8) : Bool := digB c.toNat
def allDig (l : List UInt8) : Bool := l.all digC
theorem allDig_step (s : ByteArray) (k : Nat) (h : k < s.size) : allDig (s.data.toList.drop k) = (digB s[k].toNat && allDig (s.data.toList.drop (k + 1))) := by
  unfold allDig
  rw [List.drop_eq_getElem_cons (by simpa using h)]; rfl
theorem allDig_end (s : ByteArray) (k : Nat) (h : s.size ≤ k) : allDig (s.data.toList.drop k) = true := by
  rw [List.drop_of_length_le (by simpa using h)]; rfl

set_option maxRecDepth 100000 in
set_option maxHeartbeats 1000000 in
theorem allDigits (s : ByteArray) (w : World) (hs : s.size ≤ maxLen) : Calls Try.prog 50 #[.string s] w fun e w' => e = .returned (.bool (allDig s.data.toList)) ∧ w = w' := by
  unfold maxLen at hs
  go_enter Try.func50, Try.ntmps50
  go_wp2
  go_loop [3] (fun i => ∃ k : Nat, k ≤ s.size ∧ i = .int .i64 k ∧ Hid (allDig s.data.toList = allDig (s.data.toList.drop k))) (fun i => s.size - (intOf i).toNat)
  case atStart => exact ⟨0, Nat.zero_le _, rfl, Lib.hid rfl⟩
  case round =>
    obtain ⟨k, hk, rfl, HT⟩ := hrel
    by_cases hlt : k < s.size
    · have HS := Lib.hid (allDig_step s k hlt)
      have HC := Lib.hid (fun W => isDigit (s[k].toNat : Int) W)
      by_cases hE : digB (s[k].toNat : Int) = true
      · have HE := Lib.hid hE
        rw [hE] at HC
        clear hE
        go_wp2_with (first | (go_at_call 94; refine (HC.out _).mono ?_; rintro e w' ⟨rfl, rfl⟩))
        go_round
        case rel => exact ⟨k + 1, by omega, by go_num, Lib.hid (by rw [HT.out, HS.out, HE.out]; rfl)⟩
        case measure => simp [intOf]; omega
      · have hE' : digB (s[k].toNat : Int) = false := by simpa using hE
        have HE := Lib.hid hE'
        rw [hE'] at HC
        clear hE hE'
        go_wp2_with (first | (go_at_call 94; refine (HC.out _).mono ?_; rintro e w' ⟨rfl, rfl⟩))
        go_ret
        exact ⟨ret_bool (by rw [HT.out, HS.out, HE.out]; rfl), rfl⟩
    · go_wp2
      go_ret
      exact ⟨ret_bool (by rw [HT.out]; exact (allDig_end s k (by omega)).symm), rfl⟩

/-- The number that digits say. -/
def numOf (l : List UInt8) : Nat := l.foldl (fun n c => 10 * n + (c.toNat - 48)) 0
theorem numOf_step (s : ByteArray) (k : Nat) (h : k < s.size) : numOf (s.data.toList.take (k + 1)) = 10 * numOf (s.data.toList.take k) + (s[k].toNat - 48) := by
  unfold numOf
  rw [List.take_succ_eq_append_getElem (by simpa using h), List.foldl_append]; rfl
theorem fold_lt (l : List UInt8) (h : allDig l = true) : ∀ m, l.foldl (fun n c => 10 * n + (c.toNat - 48)) m < (m + 1) * 10 ^ l.length := by
  induction l with
  | nil => intro m; simp
  | cons a r ih =>
    intro m
    unfold allDig at h
    rw [List.all_cons, Bool.and_eq_true] at h
    have ha : (a.toNat : Int) ≤ 57 := by have := h.1; unfold digC digB at this; simp at this; omega
    rw [List.foldl_cons]
    refine Nat.lt_of_lt_of_le (ih h.2 _) ?_
    rw [List.length_cons, Nat.pow_succ, Nat.mul_comm (10 ^ r.length) 10, ← Nat.mul_assoc]
    exact Nat.mul_le_mul_right _ (by omega)
theorem numOf_lt (l : List UInt8) (h : allDig l = true) : numOf l < 10 ^ l.length := by
  have := fold_lt l h 0
  simpa [numOf] using this
theorem allDig_take (l : List UInt8) (k : Nat) (h : allDig l = true) : allDig (l.take k) = true := by
  unfold allDig at *
  rw [List.all_eq_true] at *
  exact fun x hx => h x (List.mem_of_mem_take hx)
theorem allDig_drop (l : List UInt8) (k : Nat) (h : allDig l = true) : allDig (l.drop k) = true := by
  unfold allDig at *
  rw [List.all_eq_true] at *
  exact fun x hx => h x (List.mem_of_mem_drop hx)
theorem allDig_at (s : ByteArray) (k : Nat) (h : k < s.size) (ha : allDig s.data.toList = true) : 48 ≤ s[k].toNat ∧ s[k].toNat ≤ 57 := by
  unfold allDig at ha
  rw [List.all_eq_true] at ha
  have := ha s[k] (by exact List.getElem_mem (l := s.data.toList) (n := k) (by simpa using h))
  unfold digC digB at this
  simp at this
  omega

set_option maxRecDepth 100000 in
set_option maxHeartbeats 1000000 in
theorem numberOf (s : ByteArray) (w : World) (hs : s.size ≤ 17) (hd : allDig s.data.toList = true) : Calls Try.prog 51 #[.string s] w fun e w' => e = .returned (.int .i64 (numOf s.data.toList : Nat)) ∧ w = w' := by
  have HD := Lib.hid hd
  clear hd
  go_enter Try.func51, Try.ntmps51
  go_wp2
  go_loop [3, 4] (fun n i => ∃ k : Nat, k ≤ s.size ∧ i = .int .i64 k ∧ n = .int .i64 (numOf (s.data.toList.take k) : Nat)) (fun _ i => s.size - (intOf i).toNat)
  case atStart => exact ⟨0, Nat.zero_le _, rfl, rfl⟩
  case round =>
    obtain ⟨k, hk, rfl, rfl⟩ := hrel
    have hb : numOf (s.data.toList.take k) < 100000000000000000 := by
      refine Nat.lt_of_lt_of_le (numOf_lt _ (allDig_take _ k HD.out)) ?_
      rw [List.length_take]
      exact Nat.le_trans (Nat.pow_le_pow_right (by omega) (show min k s.data.toList.length ≤ 17 by omega)) (by decide)
    by_cases hlt : k < s.size
    · have HS := Lib.hid (numOf_step s k hlt)
      have hc := allDig_at s k hlt HD.out
      generalize numOf (s.data.toList.take k) = m at HS hb
      obtain ⟨hc1, hc2⟩ := hc
      have hw : IntKind.u8.wrap ((s[k].toNat : Int) - 48) = (s[k].toNat : Int) - 48 := IntWalk.u8_in _ (by omega)
      go_wp2
      go_round
      case rel => exact ⟨k + 1, by omega, by go_num, by rw [HS.out]; congr 1; omega⟩
      case measure => simp [intOf]; omega
    · have HF : Hid (numOf (s.data.toList.take k) = numOf s.data.toList) := Lib.hid (by rw [List.take_of_length_le (by simpa using by omega)])
      generalize numOf (s.data.toList.take k) = m at HF hb
      go_wp2
      go_ret
      exact ⟨ret_int (by rw [HF.out]), rfl⟩

set_option maxRecDepth 100000 in
set_option maxHeartbeats 1000000 in
theorem l02Fixed (s : ByteArray) (w : World) (hs : s.size ≤ 17) (hd : allDig s.data.toList = true) : Calls Try.prog 127 #[.string s] w fun e w' => e = .returned (.int .i64 (numOf s.data.toList : Nat)) ∧ w = w' := by
  have HD := Lib.hid hd
  clear hd
  go_enter Try.func127, Try.ntmps127
  go_wp2
  go_loop [3, 4] (fun n i => ∃ k : Nat, k ≤ s.size ∧ i = .int .i64 k ∧ n = .int .i64 (numOf (s.data.toList.take k) : Nat)) (fun _ i => s.size - (intOf i).toNat)
  case atStart => exact ⟨0, Nat.zero_le _, rfl, rfl⟩
  case round =>
    obtain ⟨k, hk, rfl, rfl⟩ := hrel
    have hb : numOf (s.data.toList.take k) < 100000000000000000 := by
      refine Nat.lt_of_lt_of_le (numOf_lt _ (allDig_take _ k HD.out)) ?_
      rw [List.length_take]
      exact Nat.le_trans (Nat.pow_le_pow_right (by omega) (show min k s.data.toList.length ≤ 17 by omega)) (by decide)
    by_cases hlt : k < s.size
    · have HS := Lib.hid (numOf_step s k hlt)
      have hc := allDig_at s k hlt HD.out
      generalize numOf (s.data.toList.take k) = m at HS hb
      obtain ⟨hc1, hc2⟩ := hc
      have hw : IntKind.u8.wrap ((s[k].toNat : Int) - 48) = (s[k].toNat : Int) - 48 := IntWalk.u8_in _ (by omega)
      go_wp2
      go_round
      case rel => exact ⟨k + 1, by omega, by go_num, by rw [HS.out]; congr 1; omega⟩
      case measure => simp [intOf]; omega
    · have HF : Hid (numOf (s.data.toList.take k) = numOf s.data.toList) := Lib.hid (by rw [List.take_of_length_le (by simpa using by omega)])
      generalize numOf (s.data.toList.take k) = m at HF hb
      go_wp2
      go_ret
      exact ⟨ret_int (by rw [HF.out]), rfl⟩

/- What a root's text says. -/
def genT (l : List UInt8) : Int := (numOf (l.take 6) : Nat)
def secT (l : List UInt8) (k : Nat) : Int := (numOf ((l.drop (6 + 2 * k)).take 2) : Nat)
def tabT (l : List UInt8) (k : Nat) : List Int := (List.range k).map (secT l)
theorem tabT_len (l : List UInt8) (k : Nat) : (tabT l k).length = k := by simp [tabT]
theorem tabT_step (l : List UInt8) (k : Nat) : tabT l (k + 1) = tabT l k ++ [secT l k] := by simp [tabT, List.range_succ]
/-- Whether a text is a root's. -/
def rdB (l : List UInt8) : Bool := decide (l.length = 46) && (allDig l && (decide (l.take 6 = l.drop 40) && rootB (genT l) (tabT l 17)))
/-- What ReadRoot answers: the generation, the table, the code. -/
def rdG (t : ByteArray) : Int := if 65536 < t.size then 0 else if rdB t.data.toList = true then genT t.data.toList else 0
def rdZ (t : ByteArray) : List Int := if 65536 < t.size then [] else if rdB t.data.toList = true then tabT t.data.toList 17 else []
def rdC (t : ByteArray) : Int := if 65536 < t.size then 2 else if rdB t.data.toList = true then 0 else 9
end Go.Proofs.Ytkhhdlclcniklaa

/- Appending one element to a slice of the call's own; what such a slice is good for. -/
namespace Go.Proofs.Ytkhhdlclcniklaa
open Go.RowKit

/-- An element type: its zero value, its cells, its bytes. -/
structure Elem (P : Program) (e : TypeId) (z : Value) (size bytes : Nat) : Prop where
  info : ∃ i : TypeInfo, P.info? e = some i ∧ i.zero = some z ∧ i.size = size ∧ i.bytes = bytes
  cells : z.cells.size = size
  pos : 0 < size

/-- The row v, of n elements with the cells xs, of the call's own: its block lies from base on. -/
abbrev RowV (w : World) (base : Nat) (e : TypeId) (size : Nat) (v : Value) (n : Nat) (xs : List Value) : Prop := w.ownsRow base e size v n xs

theorem rowv_ge {w : World} {base n : Nat} {e : TypeId} {size : Nat} {v : Value} {xs : List Value} (h : w.ownsRow base e size v n xs) : ∀ k, v.ownBlock = some k → base ≤ k := by
  intro k hk
  rcases h.2 with ⟨rfl, _⟩ | ⟨g, cap, cur, rfl, q1, q2⟩
  · simp [Value.ownBlock] at hk
  · simp [Value.ownBlock] at hk; omega
theorem rowv_keep {w w' : World} {base n : Nat} {e : TypeId} {size : Nat} {v : Value} {xs : List Value} (h : w.ownsRow base e size v n xs) (hk : ∀ k, base ≤ k → k < w.heap.size → w'.heap[k]? = w.heap[k]?) : w'.ownsRow base e size v n xs := by
  obtain ⟨h1, h0 | ⟨g, cap, cur, rfl, q1, q2, q3⟩⟩ := h
  · exact ⟨h1, .inl h0⟩
  · refine ⟨h1, .inr ⟨g, cap, cur, rfl, q1, ?_, q3⟩⟩
    have hlt : g < w.heap.size := by
      rcases Nat.lt_or_ge g w.heap.size with hlt | hge
      · exact hlt
      · rw [Array.getElem?_eq_none hge] at q2; cases q2
    rw [hk g q1 hlt]; exact q2
theorem rowv_below {w w' : World} {base n : Nat} {e : TypeId} {size : Nat} {v : Value} {xs : List Value} (h : w.ownsRow base e size v n xs) (hb : Below w.heap.size w w') : w'.ownsRow base e size v n xs := rowv_keep h (fun k _ hk => hb.block k hk)
theorem rowv_set {w : World} {base n : Nat} {e : TypeId} {size : Nat} {v : Value} {xs : List Value} (h : w.ownsRow base e size v n xs) {p : Addr} (hp : p.block < base) (u : Value) : (w.setCell p u).ownsRow base e size v n xs :=
  rowv_keep h (fun k hk _ => Below.heap_setCell w p u k (by omega))
theorem rowv_nil (w : World) (base : Nat) (e : TypeId) (size : Nat) : w.ownsRow base e size (.slice none 0 0) 0 [] := World.ownsRow_nil w base e size
theorem rowv_form {w : World} {base n : Nat} {e : TypeId} {size : Nat} {v : Value} {xs : List Value} (h : w.ownsRow base e size v n xs) : ∃ A cap, v = .slice A n cap ∧ n ≤ cap := by
  rcases h.2 with ⟨rfl, rfl⟩ | ⟨g, cap, cur, rfl, _, _, q, _⟩
  · exact ⟨none, 0, rfl, Nat.le_refl _⟩
  · exact ⟨_, cap, rfl, q⟩
theorem rowv_empty {w : World} {base g : Nat} {t : TypeId} {size : Nat} (hb : base ≤ g) (hg : Box w g t #[]) : w.ownsRow base t size (.slice (some ⟨g, 0, none⟩) 0 0) 0 [] :=
  ⟨by simp, .inr ⟨g, 0, #[], rfl, hb, hg, Nat.le_refl _, Nat.zero_le _, by simp, by simp⟩⟩

theorem wpList_app_one {P : Program} {w : World} {ops : Array Oper} {rest : List Oper} {o : Oper} {a : Act} {Q : Exit → Act → World → Prop} (hgd : o.guard = none) (s x : Operand) (t e : TypeId)
    (ho : o.op = .call { callee := .builtin .append, args := #[s, x], argTypes := #[t, t] }) (z : Value) (size bytes : Nat) (E : Elem P e z size bytes) (ht : P.underlying t = some (.slice e))
    (base : Nat) (v : Value) (n : Nat) (xs : List Value) (hs : a.eval s = v) (hown : w.ownsRow base e size v n xs)
    (b c : Nat) (hx : a.eval x = .slice (some ⟨b, 0, none⟩) 1 c) (news : List Value) (hl : news.length = size) (hnews : ∀ j u, news[j]? = some u → w.cell? ⟨b, j, none⟩ = some u) (h1 : ∀ u ∈ news, u.oneCell' = true)
    (h63 : n + 1 ≤ maxLen) (hby : (n + 1) * bytes ≤ 140737488355328) (hbase : base ≤ w.heap.size)
    (hK : ∀ A cap w', w'.ownsRow base e size (.slice A (n + 1) cap) (n + 1) (xs ++ news) → n + 1 ≤ cap → w.grownBy w' v.ownBlock → Below base w w' → wpList P ops Q rest (a.put o.dst (.slice A (n + 1) cap)) w') : wpList P ops Q (o :: rest) a w := by
  obtain ⟨i, hi, hz, hsz, hb⟩ := E.info
  refine wpList_append_own w hgd s x t ho base e i z size bytes ht hi hz hsz hb E.cells E.pos v n xs hs hown ⟨b, 0, none⟩ 1 c news hx (by rw [hl]; omega) (fun j u hj => ?_) h1 h63 hby hbase (fun v' w' h2 h3 _ => ?_)
  · have := hnews j u hj
    unfold Addr.add
    by_cases h0 : j = 0
    · subst h0; simpa using this
    · rw [if_neg h0]; simpa using this
  · obtain ⟨A, cap, rfl, hcap⟩ := rowv_form h2
    exact hK A cap w' h2 hcap h3 ((Below.refl base w).grown h3 hbase (rowv_ge hown))

theorem wpList_app_many {P : Program} {w : World} {ops : Array Oper} {rest : List Oper} {o : Oper} {a : Act} {Q : Exit → Act → World → Prop} (hgd : o.guard = none) (s x : Operand) (t e : TypeId)
    (ho : o.op = .call { callee := .builtin .append, args := #[s, x], argTypes := #[t, t] }) (z : Value) (size bytes : Nat) (E : Elem P e z size bytes) (ht : P.underlying t = some (.slice e))
    (base : Nat) (v : Value) (n : Nat) (xs : List Value) (hs : a.eval s = v) (hown : w.ownsRow base e size v n xs)
    (ad : Addr) (m c : Nat) (hx : a.eval x = .slice (some ad) m c) (news : List Value) (hl : news.length = m * size) (hnews : ∀ j u, news[j]? = some u → w.cell? (ad.add j) = some u) (h1 : ∀ u ∈ news, u.oneCell' = true)
    (h63 : n + m ≤ maxLen) (hby : (n + m) * bytes ≤ 140737488355328) (hbase : base ≤ w.heap.size)
    (hK : ∀ A cap w', w'.ownsRow base e size (.slice A (n + m) cap) (n + m) (xs ++ news) → n + m ≤ cap → w.grownBy w' v.ownBlock → Below base w w' → wpList P ops Q rest (a.put o.dst (.slice A (n + m) cap)) w') : wpList P ops Q (o :: rest) a w := by
  obtain ⟨i, hi, hz, hsz, hb⟩ := E.info
  refine wpList_append_own w hgd s x t ho base e i z size bytes ht hi hz hsz hb E.cells E.pos v n xs hs hown ad m c news hx hl hnews h1 h63 hby hbase (fun v' w' h2 h3 _ => ?_)
  obtain ⟨A, cap, rfl, hcap⟩ := rowv_form h2
  exact hK A cap w' h2 hcap h3 ((Below.refl base w).grown h3 hbase (rowv_ge hown))

theorem step_app_one {P : Program} {w : World} {ops : Array Oper} {o : Oper} {a : Act} {K : Act → World → Prop} {Q : Exit → Act → World → Prop} {X : Prop} (hgd : o.guard = none) (s x : Operand) (t e : TypeId)
    (ho : o.op = .call { callee := .builtin .append, args := #[s, x], argTypes := #[t, t] }) (z : Value) (size bytes : Nat) (E : Elem P e z size bytes) (ht : P.underlying t = some (.slice e))
    (base : Nat) (v : Value) (n : Nat) (xs : List Value) (hs : a.eval s = v) (hown : w.ownsRow base e size v n xs)
    (b c : Nat) (hx : a.eval x = .slice (some ⟨b, 0, none⟩) 1 c) (news : List Value) (hl : news.length = size) (hnews : ∀ j u, news[j]? = some u → w.cell? ⟨b, j, none⟩ = some u) (h1 : ∀ u ∈ news, u.oneCell' = true)
    (h63 : n + 1 ≤ maxLen) (hby : (n + 1) * bytes ≤ 140737488355328) (hbase : base ≤ w.heap.size)
    (hK : ∀ A cap w', w'.ownsRow base e size (.slice A (n + 1) cap) (n + 1) (xs ++ news) → n + 1 ≤ cap → w.grownBy w' v.ownBlock → Below base w w' → K (a.put o.dst (.slice A (n + 1) cap)) w') :
    if Region.wanted o (yielded ops a.tmps) = true then Oper.wp P o a w K Q else X := by
  have hw : Region.wanted o (yielded ops a.tmps) = true := by simp [Region.wanted, hgd]
  rw [if_pos hw]
  obtain ⟨i, hi, hz, hsz, hb⟩ := E.info
  refine wp_append_own w s x t ho base e i z size bytes ht hi hz hsz hb E.cells E.pos v n xs hs hown ⟨b, 0, none⟩ 1 c news hx (by rw [hl]; omega) (fun j u hj => ?_) h1 h63 hby hbase (fun v' w' h2 h3 _ => ?_)
  · have := hnews j u hj
    unfold Addr.add
    by_cases h0 : j = 0
    · subst h0; simpa using this
    · rw [if_neg h0]; simpa using this
  · obtain ⟨A, cap, rfl, hcap⟩ := rowv_form h2
    exact hK A cap w' h2 hcap h3 ((Below.refl base w).grown h3 hbase (rowv_ge hown))

/-- A box of another type than the row that grows is as it was. -/
theorem Box.grown {w w' : World} {b base n : Nat} {t e : TypeId} {cs : Array Value} {size : Nat} {v : Value} {xs : List Value} (h : Box w b t cs) (hr : w.ownsRow base e size v n xs) (ht : t ≠ e) (hg : w.grownBy w' v.ownBlock) : Box w' b t cs := by
  have hlt := h.lt
  refine (hg.block b hlt ?_).trans h
  rcases hr.2 with ⟨rfl, _⟩ | ⟨g, cap, cur, rfl, _, q2, _⟩
  · simp [Value.ownBlock]
  · simp only [Value.ownBlock, ne_eq, Option.some.injEq]
    rintro rfl
    unfold Box at h
    rw [h] at q2
    injection q2 with q2
    injection q2 with _ q3
    exact ht q3
theorem rowv_setBox {w : World} {base n b : Nat} {t e : TypeId} {cs : Array Value} {size : Nat} {v : Value} {xs : List Value} (h : w.ownsRow base e size v n xs) (X : Box w b t cs) (ht : t ≠ e) (i : Nat) (u : Value) : (w.setCell ⟨b, i, none⟩ u).ownsRow base e size v n xs := by
  obtain ⟨h1, h0 | ⟨g, cap, cur, rfl, q1, q2, q3⟩⟩ := h
  · exact ⟨h1, .inl h0⟩
  · refine ⟨h1, .inr ⟨g, cap, cur, rfl, q1, ?_, q3⟩⟩
    refine (Below.heap_setCell w ⟨b, i, none⟩ u g ?_).trans q2
    rintro rfl
    unfold Box at X
    rw [X] at q2
    injection q2 with q2
    injection q2 with _ q3
    exact ht q3
set_option maxRecDepth 100000 in
theorem elemInt : Elem Try.prog 3 (.int .i64 0) 1 8 := ⟨⟨_, rfl, rfl, rfl, rfl⟩, rfl, by decide⟩
set_option maxRecDepth 100000 in
theorem elemStr : Elem Try.prog 9 (.string ByteArray.empty) 1 16 := ⟨⟨_, rfl, rfl, rfl, rfl⟩, rfl, by decide⟩
set_option maxRecDepth 100000 in
theorem elemWr : Elem Try.prog 90 (.agg #[.int .i64 0, .string ByteArray.empty]) 2 24 := ⟨⟨_, rfl, rfl, rfl, rfl⟩, rfl, by decide⟩

/-- A []int of the call's own that grows. -/
def GroI (w : World) (base : Nat) (v : Value) (zs : List Int) : Prop := w.ownsRow base 3 1 v zs.length (zs.map (Value.int .i64))
def GroS (w : World) (base : Nat) (v : Value) (ss : List ByteArray) : Prop := w.ownsRow base 9 1 v ss.length (ss.map Value.string)
def GroW (w : World) (base : Nat) (v : Value) (ws : List (Int × ByteArray)) : Prop := w.ownsRow base 90 2 v ws.length (ws.flatMap fun x => [Value.int .i64 x.1, .string x.2])
theorem GroI.own {w : World} {base lo : Nat} {A : Option Addr} {n c : Nat} {zs : List Int} (h : GroI w base (.slice A n c) zs) (hb : lo ≤ base) : OwnI w lo w.heap.size A zs := by
  obtain ⟨h1, ⟨h0, h2⟩ | ⟨g, cap, cur, hv, q1, q2, q3, q4, q5, q6⟩⟩ := h
  · exact .inl (List.eq_nil_of_length_eq_zero h2)
  · injection hv with hv1 hv2 hv3
    refine .inr ⟨g, cap, fun i => cur.getD i (.int .i64 0), hv1, by omega, (Array.getElem?_eq_some_iff.1 q2).1, q3, ⟨cur, q2, by omega, fun i hi => ?_⟩, fun i hi => ?_⟩
    · simp [Array.getElem?_eq_getElem (show i < cur.size by omega)]
    · have : (cur.toList.take (zs.length * 1))[i]? = (zs.map (Value.int .i64))[i]? := by rw [q6]
      rw [List.getElem?_take, if_pos (by omega), Array.getElem?_toList, List.getElem?_map, List.getElem?_eq_getElem hi] at this
      simp [this, List.getD_eq_getElem?_getD, List.getElem?_eq_getElem hi]
theorem GroS.own {w : World} {base lo : Nat} {A : Option Addr} {n c : Nat} {ss : List ByteArray} (h : GroS w base (.slice A n c) ss) (hb : lo ≤ base) : OwnS w lo w.heap.size A ss := by
  obtain ⟨h1, ⟨h0, h2⟩ | ⟨g, cap, cur, hv, q1, q2, q3, q4, q5, q6⟩⟩ := h
  · exact .inl (List.eq_nil_of_length_eq_zero h2)
  · injection hv with hv1 hv2 hv3
    refine .inr ⟨g, cap, fun i => cur.getD i (.int .i64 0), hv1, by omega, (Array.getElem?_eq_some_iff.1 q2).1, q3, ⟨cur, q2, by omega, fun i hi => ?_⟩, fun i hi => ?_⟩
    · simp [Array.getElem?_eq_getElem (show i < cur.size by omega)]
    · have : (cur.toList.take (ss.length * 1))[i]? = (ss.map Value.string)[i]? := by rw [q6]
      rw [List.getElem?_take, if_pos (by omega), Array.getElem?_toList, List.getElem?_map, List.getElem?_eq_getElem hi] at this
      simp [this, List.getD_eq_getElem?_getD, List.getElem?_eq_getElem hi]
theorem GroI.len {w : World} {base : Nat} {A : Option Addr} {n c : Nat} {zs : List Int} (h : GroI w base (.slice A n c) zs) : zs.length = n := by
  obtain ⟨A', cap, hv, _⟩ := rowv_form h
  injection hv with _ hv2 _; exact hv2.symm
theorem GroS.len {w : World} {base : Nat} {A : Option Addr} {n c : Nat} {ss : List ByteArray} (h : GroS w base (.slice A n c) ss) : ss.length = n := by
  obtain ⟨A', cap, hv, _⟩ := rowv_form h
  injection hv with _ hv2 _; exact hv2.symm
end Go.Proofs.Ytkhhdlclcniklaa

/- A part of a text, as a list. -/
namespace Go.Proofs.Ytkhhdlclcniklaa
theorem ext_list (t : ByteArray) (i j : Nat) : (t.extract i j).data.toList = (t.data.toList.drop i).take (j - i) := by
  rw [ByteArray.data_extract, Array.toList_extract, List.extract_eq_take_drop]
end Go.Proofs.Ytkhhdlclcniklaa

/- The contract of impl.ReadRoot. -/
namespace Go.Proofs.Ytkhhdlclcniklaa
open Go.RowKit

/-- The call hands back a root of its own, and a code. -/
def GivesRootCode (g : Int) (zs : List Int) (code : Int) (w : World) (e : Ending) (w' : World) : Prop :=
  ∃ A n c, e = .returned (.tuple #[.agg #[.int .i64 g, .slice A n c], .int .i64 code]) ∧ Hid (zs.length = n) ∧ Hid (OwnI w' w.heap.size w'.heap.size A zs) ∧ Below w.heap.size w w'
theorem givesR_none {w w' : World} {code : Int} (h : Below w.heap.size w w') : GivesRootCode 0 [] code w (.returned (.tuple #[.agg #[.int .i64 0, .slice none 0 0], .int .i64 code])) w' :=
  ⟨_, _, _, rfl, Lib.hid rfl, Lib.hid (.inl rfl), h⟩

theorem below_st2 {w w1 : World} {b : Nat} (h : Below w.heap.size w w1) (hb : w.heap.size ≤ b) (u v : Value) : Below w.heap.size w ((w1.setCell ⟨b, 0, none⟩ u).setCell ⟨b, 1, none⟩ v) := (h.setCell (p := ⟨b, 0, none⟩) hb u).setCell (p := ⟨b, 1, none⟩) hb v
set_option maxRecDepth 100000 in
set_option maxHeartbeats 2000000 in
theorem implReadRoot (t : ByteArray) (w : World) (ht : t.size ≤ maxLen) :
    Calls Try.prog 13 #[.string t] w (GivesRootCode (rdG t) (rdZ t) (rdC t) w) := by
  unfold maxLen at ht
  have hb0 := alloc_below w (.cells #[.int .i64 0, .slice none 0 0] 25)
  by_cases h1 : 65536 < t.size
  · have h1' : (65536 : Int) < (t.size : Int) := by omega
    have HV : Hid (rdG t = 0 ∧ rdZ t = [] ∧ rdC t = 2) := Lib.hid (by unfold rdG rdZ rdC; rw [if_pos h1, if_pos h1, if_pos h1]; exact ⟨rfl, rfl, rfl⟩)
    rw [HV.out.1, HV.out.2.1, HV.out.2.2]
    clear h1
    go_enter Try.func13, Try.ntmps13
    go_wp2
    refine bodyPost_ret (v := .tuple #[.agg #[.int .i64 0, .slice none 0 0], .int .i64 2]) (by simp [results, Try.results13, go_sem]) rfl ?_
    exact givesR_none hb0
  have h1' : ¬ (65536 : Int) < (t.size : Int) := by omega
  by_cases h2 : t.size = 46
  · have h2' : (t.size : Int) = 46 := by omega
    have h2b : ((t.size : Int) != 46) = false := by rw [h2']; rfl
    have HA := Lib.hid (fun W => allDigits t W (by unfold maxLen; omega))
    by_cases h3 : allDig t.data.toList = true
    · rw [h3] at HA
      have H3 := Lib.hid h3
      have hX := ext_list t 0 6
      have hY := ext_list t 40 46
      by_cases h4 : t.data.toList.take 6 = t.data.toList.drop 40
      · have h4b : ((t.extract 0 6).toList == (t.extract 40 46).toList) = true := by
          rw [ByteArray.toList_eq, ByteArray.toList_eq, hX, hY]
          simp only [beq_iff_eq, List.drop_zero]
          rw [h4, List.take_of_length_le (by rw [List.length_drop]; show t.size - 40 ≤ 6; omega)]
        have HNg := Lib.hid (fun W => numberOf (t.extract 0 6) W (by rw [ByteArray.size_extract]; omega) (by rw [hX]; exact allDig_take _ _ (allDig_drop _ _ h3)))
        rw [hX, List.drop_zero, show 6 - 0 = 6 from rfl] at HNg
        rw [show ((numOf (t.data.toList.take 6) : Nat) : Int) = genT t.data.toList from rfl] at HNg
        have HB : Hid (rdB t.data.toList = rootB (genT t.data.toList) (tabT t.data.toList 17)) := Lib.hid (by
          unfold rdB
          rw [show decide (t.data.toList.length = 46) = true by exact decide_eq_true h2, h3, show decide (t.data.toList.take 6 = t.data.toList.drop 40) = true by exact decide_eq_true h4]
          simp)
        generalize hge : genT t.data.toList = g at HNg HB
        have HGe := Lib.hid hge
        clear hge
        have H1 := Lib.hid h1
        clear h3 hX hY h4 h1
        go_enter Try.func13, Try.ntmps13
        go_wp2
        go_quiet (first | (go_at_call 50; exact quiet_same (HA.out _)))
        go_wp2_with fail
        have HT := Lib.hid (And.intro h2 ht)
        clear h2 ht
        refine (HNg.out _).mono ?_
        rintro e w' ⟨rfl, rfl⟩
        go_wp2
        obtain ⟨W1, hW1⟩ : ∃ W1, W1 = ((w.alloc (.cells #[.int .i64 0, .slice none 0 0] 25)).drewN nq).alloc (.cells #[.int .i64 g, .slice none 0 0] 25) := ⟨_, rfl⟩
        have hb1 : Below w.heap.size w W1 := by rw [hW1]; exact bt (below_drewN hb0 nq) (alloc_below _ _)
        have X0 : Hid (Box W1 w.heap.size 25 #[.int .i64 0, .slice none 0 0]) := Lib.hid (by rw [hW1]; exact ((Box.new _ _ _).drewN nq).alloc _)
        have X1 : Hid (Box W1 (w.heap.size + 1) 25 #[.int .i64 g, .slice none 0 0]) := Lib.hid (by
          rw [hW1]; simpa using Box.new ((w.alloc (.cells #[.int .i64 0, .slice none 0 0] 25)).drewN nq) 25 #[.int .i64 g, .slice none 0 0])
        have hsz : w.heap.size + 2 ≤ W1.heap.size := by have := X1.out.lt; omega
        rw [← hW1]
        clear hW1 hb0 HA HNg h4b h2b
        go_loopw [5] (fun i wr => ∃ (k : Nat) (A : Option Addr) (c : Nat), k ≤ 17 ∧ i = .int .i64 ((6 + 2 * k : Nat) : Int) ∧ Below w.heap.size w wr ∧ Hid (Box wr w.heap.size 25 #[.int .i64 0, .slice none 0 0]) ∧ Hid (Box wr (w.heap.size + 1) 25 #[.int .i64 g, .slice A k c]) ∧ Hid (GroI wr (w.heap.size + 2) (.slice A k c) (tabT t.data.toList k)) ∧ w.heap.size + 2 ≤ wr.heap.size) (fun i _ => 40 - (intOf i).toNat)
        case atStart => exact ⟨0, none, 0, by omega, rfl, hb1, X0, X1, Lib.hid (rowv_nil _ _ _ _), hsz⟩
        case round =>
          clear X0 X1 hb1 hsz
          obtain ⟨k, A, c, hk, rfl, hbw, X0, X1, HR, hsz⟩ := hrel
          have f1 := X1.out.cell 1 rfl
          by_cases hlt : k < 17
          · have HNk := Lib.hid (fun W => numberOf (t.extract (6 + 2 * k) (6 + 2 * k + 2)) W (by rw [ByteArray.size_extract]; have := HT.out.1; omega) (by rw [ext_list]; exact allDig_take _ _ (allDig_drop _ _ H3.out)))
            rw [ext_list, show 6 + 2 * k + 2 - (6 + 2 * k) = 2 by omega, show ((numOf ((t.data.toList.drop (6 + 2 * k)).take 2) : Nat) : Int) = secT t.data.toList k from rfl] at HNk
            have HSt := Lib.hid (tabT_step t.data.toList k)
            generalize secT t.data.toList k = z at HNk HSt
            obtain ⟨i, hi⟩ : ∃ i : Nat, i = 6 + 2 * k := ⟨_, rfl⟩
            rw [← hi] at HNk ⊢
            have HI := Lib.hid hi
            have hi1 : (i : Int) < 40 := by omega
            have hi2 : i + 2 ≤ 40 := by omega
            have p1 : (0 : Int) ≤ (i : Int) + 2 := by omega
            have p2 : (i : Int) + 2 ≤ 46 := by omega
            have p3 : (i : Int) ≤ (i : Int) + 2 := by omega
            have p4 : ((i : Int) + 2).toNat = i + 2 := by omega
            have e1 : IntKind.i64.wrap ((i : Int) + 2) = (i : Int) + 2 := IntWalk.i64_in _ (by omega)
            clear hi
            have HRk : Hid (wr.ownsRow (w.heap.size + 2) 3 1 (.slice A k c) k ((tabT t.data.toList k).map (Value.int .i64))) := Lib.hid (by have := HR.out; unfold GroI at this; rwa [tabT_len] at this)
            have HLz := Lib.hid (tabT_len t.data.toList k)
            generalize tabT t.data.toList k = zs at HRk HSt HLz
            have HOw : Hid ((wr.drew.alloc (.cells #[.int .i64 z] 3)).ownsRow (w.heap.size + 2) 3 1 (.slice A k c) k (zs.map (Value.int .i64))) := Lib.hid (rowv_below HRk.out (bt ((Below.refl _ _).drew) (alloc_below _ _)))
            have HNw : Hid (∀ j u, [Value.int .i64 z][j]? = some u → (wr.drew.alloc (.cells #[.int .i64 z] 3)).cell? ⟨wr.heap.size, j, none⟩ = some u) := Lib.hid (fun j u hj => by
              match j, hj with
              | 0, hj => simp at hj; subst hj; exact (Box.new wr.drew 3 #[.int .i64 z]).cell 0 rfl)
            have HBa : Hid (Below wr.heap.size wr (wr.drew.alloc (.cells #[.int .i64 z] 3))) := Lib.hid (bt ((Below.refl _ _).drew) (alloc_below _ _))
            have HXa : Hid (Box (wr.drew.alloc (.cells #[.int .i64 z] 3)) (w.heap.size + 1) 25 #[.int .i64 g, .slice A k c]) := Lib.hid (X1.out.step HBa.out)
            have f2 : (wr.alloc (.cells #[.int .i64 z] 3)).drew.cell? ⟨w.heap.size + 1, 1, none⟩ = some (.slice A k c) := HXa.out.cell 1 rfl
            go_wp2
            go_region_law (first
              | (refine step_app_one rfl (.tmp 35) (.tmp 42) 23 3 rfl (.int .i64 0) 1 8 elemInt Try.underlying23 (w.heap.size + 2) (.slice A k c) k (zs.map (Value.int .i64)) ?_ HOw.out wr.heap.size 1 ?_ [.int .i64 z] rfl HNw.out ?_ ?_ ?_ ?_ ?_; simp [Act.eval]; simp [Act.eval]; (intro u hu; simp at hu; subst hu; rfl); (unfold maxLen; omega); omega; (simp; omega); intro A' c' w4 hR4 hc4 hg4 hb4; have HX4 := Lib.hid (HXa.out.below hb4 (by omega)); have y0 := HX4.out.cell 1 rfl; have y1 := HX4.out.frozen 1)
              | ((rw [if_pos (by rfl)]); go_simp; go_at_call 51; refine (HNk.out _).mono ?_; rintro e w' ⟨rfl, rfl⟩))
            all_goals clear f1 f2 e1 p1 p2 p3 p4
            all_goals (
              have HR4 := Lib.hid hR4
              have hbz : Below w.heap.size w w4 := bt hbw (bt HBa.out (Below.refl _ _)) |>.trans (hb4.mono (by omega))
              have hs4 : w.heap.size + 2 ≤ w4.heap.size := Nat.le_trans (Nat.le_trans hsz HBa.out.size) hb4.size
              have HX0 := Lib.hid ((X0.out.step HBa.out).below hb4 (by omega))
              clear hR4 hb4 hg4 y0 y1
              go_wp2
              go_roundw
              case rel => exact ⟨k + 1, A', c', by omega, by have := HI.out; congr 1; omega, hbz.setCell (by show w.heap.size ≤ w.heap.size + 1; omega) _, Lib.hid (HX0.out.far (by show w.heap.size ≠ w.heap.size + 1; omega) _), Lib.hid (HX4.out.set 1 _), Lib.hid (by unfold GroI; rw [HSt.out, List.length_append]; have := rowv_set HR4.out (p := ⟨w.heap.size + 1, 1, none⟩) (by show w.heap.size + 1 < w.heap.size + 2; omega) (.slice A' (k + 1) c'); simpa [HLz.out] using this), by simpa [World.setCell] using hs4⟩
              case measure => simp [intOf]; omega)
          · obtain rfl : k = 17 := by omega
            have f0 := X1.out.cell 0 rfl
            have hlt' : ¬ ((6 + 2 * 17 : Nat) : Int) < 40 := by omega
            have HV := Lib.hid (rootValid g A 17 c (tabT t.data.toList 17) wr (tabT_len _ _) (by unfold maxLen; omega) (HR.out.own (Nat.le_refl _)).reads)
            have HG1 : Hid (¬ 65536 < t.size) := H1
            by_cases hv : rootB g (tabT t.data.toList 17) = true
            · rw [hv] at HV
              have HW : Hid (rdG t = genT t.data.toList ∧ rdZ t = tabT t.data.toList 17 ∧ rdC t = 0) := Lib.hid (by
                unfold rdG rdZ rdC; rw [if_neg H1.out, if_neg H1.out, if_neg H1.out, HB.out, if_pos hv, if_pos hv, if_pos hv]; exact ⟨rfl, rfl, rfl⟩)
              clear hv
              go_wp2_with fail
              refine HV.out.mono ?_
              rintro e w5 ⟨rfl, hb5⟩
              have HX1 := Lib.hid (X1.out.step hb5)
              have HX0 := Lib.hid (X0.out.step hb5)
              have y0 := HX1.out.cell 0 rfl
              have y1 := HX1.out.cell 1 rfl
              have y2 := HX0.out.cell 0 rfl
              have y3 := HX0.out.cell 1 rfl
              have y4 := HX0.out.frozen 0
              have y5 := HX0.out.frozen 1
              have HO := Lib.hid (((HR.out.own (lo := w.heap.size) (by omega)).below hb5))
              have hbz := bt hbw hb5
              clear f0 f1
              go_wp2
              refine bodyPost_ret (v := .tuple #[.agg #[.int .i64 g, .slice A 17 c], .int .i64 0]) (by simp [results, Try.results13, go_sem, y2, y3]) rfl ?_
              rw [HW.out.1, HW.out.2.1, HW.out.2.2, HGe.out]
              refine ⟨_, _, _, rfl, Lib.hid (tabT_len _ _), Lib.hid ?_, below_st2 hbz (Nat.le_refl _) _ _⟩
              exact (((HO.out.wide (Nat.le_refl _) hb5.size).far HX0.out (by decide) 0 _).far (HX0.out.set 0 _) (by decide) 1 _).wide (Nat.le_refl _) (by simp [World.setCell])
            · have hv' : rootB g (tabT t.data.toList 17) = false := by simpa using hv
              rw [hv'] at HV
              have HW : Hid (rdG t = 0 ∧ rdZ t = [] ∧ rdC t = 9) := Lib.hid (by
                unfold rdG rdZ rdC; rw [if_neg H1.out, if_neg H1.out, if_neg H1.out, HB.out, if_neg hv, if_neg hv, if_neg hv]; exact ⟨rfl, rfl, rfl⟩)
              clear hv hv'
              go_wp2_with fail
              refine HV.out.mono ?_
              rintro e w5 ⟨rfl, hb5⟩
              have HX0 := Lib.hid (X0.out.step hb5)
              have y2 := HX0.out.cell 0 rfl
              have y3 := HX0.out.cell 1 rfl
              have y4 := HX0.out.frozen 0
              have y5 := HX0.out.frozen 1
              have hbz := bt hbw hb5
              clear f0 f1
              go_wp2
              refine bodyPost_ret (v := .tuple #[.agg #[.int .i64 0, .slice none 0 0], .int .i64 9]) (by simp [results, Try.results13, go_sem, y2, y3]) rfl ?_
              rw [HW.out.1, HW.out.2.1, HW.out.2.2]
              exact givesR_none (below_st2 hbz (Nat.le_refl _) _ _)
      · have h4b : ((t.extract 0 6).toList == (t.extract 40 46).toList) = false := by
          rw [ByteArray.toList_eq, ByteArray.toList_eq, hX, hY]
          simp only [beq_eq_false_iff_ne, List.drop_zero]
          rw [List.take_of_length_le (l := t.data.toList.drop 40) (by rw [List.length_drop]; show t.size - 40 ≤ 6; omega)]
          exact h4
        have HW : Hid (rdG t = 0 ∧ rdZ t = [] ∧ rdC t = 9) := Lib.hid (by
          have : rdB t.data.toList = false := by
            unfold rdB
            rw [show decide (t.data.toList.take 6 = t.data.toList.drop 40) = false by exact decide_eq_false h4]
            simp
          unfold rdG rdZ rdC; rw [if_neg h1, if_neg h1, if_neg h1, this]; exact ⟨rfl, rfl, rfl⟩)
        rw [HW.out.1, HW.out.2.1, HW.out.2.2]
        clear h3 hX hY h4 h1
        go_enter Try.func13, Try.ntmps13
        go_wp2
        go_quiet (first | (go_at_call 50; exact quiet_same (HA.out _)))
        go_wp2
        refine bodyPost_ret (v := .tuple #[.agg #[.int .i64 0, .slice none 0 0], .int .i64 9]) (by simp [results, Try.results13, go_sem]) rfl ?_
        exact givesR_none (below_st2 (below_drewN hb0 _) (Nat.le_refl _) _ _)
    · have h3' : allDig t.data.toList = false := by simpa using h3
      rw [h3'] at HA
      have HW : Hid (rdG t = 0 ∧ rdZ t = [] ∧ rdC t = 9) := Lib.hid (by
        have : rdB t.data.toList = false := by unfold rdB; rw [h3']; simp
        unfold rdG rdZ rdC; rw [if_neg h1, if_neg h1, if_neg h1, this]; exact ⟨rfl, rfl, rfl⟩)
      rw [HW.out.1, HW.out.2.1, HW.out.2.2]
      clear h3 h3' h1
      go_enter Try.func13, Try.ntmps13
      go_wp2
      go_quiet (first | (go_at_call 50; exact quiet_same (HA.out _)))
      go_wp2
      refine bodyPost_ret (v := .tuple #[.agg #[.int .i64 0, .slice none 0 0], .int .i64 9]) (by simp [results, Try.results13, go_sem]) rfl ?_
      exact givesR_none (below_st2 (below_drewN hb0 _) (Nat.le_refl _) _ _)
  · have h2b : ((t.size : Int) != 46) = true := by simp; omega
    have HW : Hid (rdG t = 0 ∧ rdZ t = [] ∧ rdC t = 9) := Lib.hid (by
      have : rdB t.data.toList = false := by unfold rdB; rw [show decide (t.data.toList.length = 46) = false by exact decide_eq_false h2]; simp
      unfold rdG rdZ rdC; rw [if_neg h1, if_neg h1, if_neg h1, this]; exact ⟨rfl, rfl, rfl⟩)
    rw [HW.out.1, HW.out.2.1, HW.out.2.2]
    clear h1
    go_enter Try.func13, Try.ntmps13
    go_wp2
    go_quiet (fail)
    go_wp2
    refine bodyPost_ret (v := .tuple #[.agg #[.int .i64 0, .slice none 0 0], .int .i64 9]) (by simp [results, Try.results13, go_sem]) rfl ?_
    exact givesR_none (below_st2 (below_drewN hb0 _) (Nat.le_refl _) _ _)
end Go.Proofs.Ytkhhdlclcniklaa

/- The contracts of spec.l02Read and spec.ReadRoot. -/
namespace Go.Proofs.Ytkhhdlclcniklaa
open Go.RowKit

/-- The call hands back a root of its own, and whether it is one. -/
def GivesRootOk (g : Int) (zs : List Int) (ok : Bool) (w : World) (e : Ending) (w' : World) : Prop :=
  ∃ A n c, e = .returned (.tuple #[.agg #[.int .i64 g, .slice A n c], .bool ok]) ∧ Hid (zs.length = n) ∧ Hid (OwnI w' w.heap.size w'.heap.size A zs) ∧ Below w.heap.size w w'
theorem givesO_none {w w' : World} (h : Below w.heap.size w w') : GivesRootOk 0 [] false w (.returned (.tuple #[.agg #[.int .i64 0, .slice none 0 0], .bool false])) w' :=
  ⟨_, _, _, rfl, Lib.hid rfl, Lib.hid (.inl rfl), h⟩
def okG (l : List UInt8) : Int := if rdB l = true then genT l else 0
def okZ (l : List UInt8) : List Int := if rdB l = true then tabT l 17 else []
theorem ok_no {l : List UInt8} (h : rdB l = false) : okG l = 0 ∧ okZ l = [] := by unfold okG okZ; rw [h]; exact ⟨rfl, rfl⟩

set_option maxRecDepth 100000 in
set_option maxHeartbeats 4000000 in
theorem l02Read (t : ByteArray) (w : World) (ht : t.size ≤ maxLen) :
    Calls Try.prog 115 #[.string t] w (GivesRootOk (okG t.data.toList) (okZ t.data.toList) (rdB t.data.toList) w) := by
  unfold maxLen at ht
  have hb0 := alloc_below w (.cells #[.int .i64 0, .slice none 0 0] 25)
  by_cases h2 : t.size = 46
  · have h2' : (t.size : Int) = 46 := by omega
    have h2b : ((t.size : Int) != 46) = false := by rw [h2']; rfl
    go_enter Try.func115, Try.ntmps115
    go_wp2
    go_loop [4] (fun i => ∃ k : Nat, k ≤ t.size ∧ i = .int .i64 k ∧ Hid (allDig t.data.toList = allDig (t.data.toList.drop k))) (fun i => t.size - (intOf i).toNat)
    case atStart => exact ⟨0, Nat.zero_le _, rfl, Lib.hid rfl⟩
    case round =>
      obtain ⟨k, hk, rfl, HTk⟩ := hrel
      by_cases hlt : k < t.size
      · have HS := Lib.hid (allDig_step t k hlt)
        have HC := Lib.hid (fun W => l00Digit (t[k].toNat : Int) W)
        by_cases hE : digB (t[k].toNat : Int) = true
        · have HE := Lib.hid hE
          rw [hE] at HC
          clear hE
          go_wp2_with (first | (go_at_call 126; refine (HC.out _).mono ?_; rintro e w' ⟨rfl, rfl⟩))
          go_round
          case rel => exact ⟨k + 1, by omega, by go_num, Lib.hid (by rw [HTk.out, HS.out, HE.out]; rfl)⟩
          case measure => simp [intOf]; omega
        · have hE' : digB (t[k].toNat : Int) = false := by simpa using hE
          have HE := Lib.hid hE'
          rw [hE'] at HC
          clear hE hE'
          go_wp2_with (first | (go_at_call 126; refine (HC.out _).mono ?_; rintro e w' ⟨rfl, rfl⟩))
          refine bodyPost_ret (v := .tuple #[.agg #[.int .i64 0, .slice none 0 0], .bool false]) (by simp [results, Try.results115, go_sem]) rfl ?_
          have hn : rdB t.data.toList = false := by unfold rdB; rw [HTk.out, HS.out, HE.out]; simp
          rw [(ok_no hn).1, (ok_no hn).2, hn]
          exact givesO_none hb0
      · have h3 : allDig t.data.toList = true := by rw [HTk.out]; exact allDig_end t k (by omega)
        have H3 := Lib.hid h3
        have HNg := Lib.hid (fun W => l02Fixed (t.extract 0 6) W (by rw [ByteArray.size_extract]; omega) (by rw [ext_list]; exact allDig_take _ _ (allDig_drop _ _ h3)))
        rw [ext_list, List.drop_zero, show 6 - 0 = 6 from rfl] at HNg
        rw [show ((numOf (t.data.toList.take 6) : Nat) : Int) = genT t.data.toList from rfl] at HNg
        generalize hge : genT t.data.toList = g at HNg
        have HGe := Lib.hid hge
        obtain rfl : k = 46 := by omega
        have HB : Hid (rdB t.data.toList = (decide (t.data.toList.take 6 = t.data.toList.drop 40) && rootB g (tabT t.data.toList 17))) := Lib.hid (by
          unfold rdB
          rw [show decide (t.data.toList.length = 46) = true by exact decide_eq_true h2, h3, hge]
          simp)
        have hX := ext_list t 0 6
        have hY := ext_list t 40 46
        have H4 : Hid (((t.extract 40 46).toList == (t.extract 0 6).toList) = decide (t.data.toList.take 6 = t.data.toList.drop 40)) := Lib.hid (by
          rw [ByteArray.toList_eq, ByteArray.toList_eq, hX, hY, Bool.eq_iff_iff]
          simp only [beq_iff_eq, List.drop_zero, decide_eq_true_eq]
          rw [List.take_of_length_le (l := t.data.toList.drop 40) (by rw [List.length_drop]; show t.size - 40 ≤ 6; omega)]
          exact eq_comm)
        clear hge h3 HTk hX hY
        go_wp2_with fail
        refine (HNg.out _).mono ?_
        rintro e w' ⟨rfl, rfl⟩
        go_wp2
        obtain ⟨W1, hW1⟩ : ∃ W1, W1 = ((w.alloc (.cells #[.int .i64 0, .slice none 0 0] 25)).alloc (.cells #[] 3)).alloc (.cells #[.int .i64 g, .slice (some ⟨w.heap.size + 1, 0, none⟩) 0 0] 25) := ⟨_, rfl⟩
        have hb1 : Below w.heap.size w W1 := by rw [hW1]; exact bt (bt hb0 (alloc_below _ _)) (alloc_below _ _)
        have X0 : Hid (Box W1 w.heap.size 25 #[.int .i64 0, .slice none 0 0]) := Lib.hid (by rw [hW1]; exact ((Box.new _ _ _).alloc _).alloc _)
        have X1 : Hid (Box W1 (w.heap.size + 1 + 1) 25 #[.int .i64 g, .slice (some ⟨w.heap.size + 1, 0, none⟩) 0 0]) := Lib.hid (by
          rw [hW1]; simpa using Box.new ((w.alloc (.cells #[.int .i64 0, .slice none 0 0] 25)).alloc (.cells #[] 3)) 25 #[.int .i64 g, .slice (some ⟨w.heap.size + 1, 0, none⟩) 0 0])
        have X2 : Hid (Box W1 (w.heap.size + 1) 3 #[]) := Lib.hid (by
          rw [hW1]; exact (by simpa using Box.new (w.alloc (.cells #[.int .i64 0, .slice none 0 0] 25)) 3 #[] : Box ((w.alloc (.cells #[.int .i64 0, .slice none 0 0] 25)).alloc (.cells #[] 3)) (w.heap.size + 1) 3 #[]).alloc _)
        have hsz : w.heap.size + 2 ≤ W1.heap.size := by have := X1.out.lt; omega
        have HR0 : Hid (GroI W1 (w.heap.size + 1) (.slice (some ⟨w.heap.size + 1, 0, none⟩) 0 0) (tabT t.data.toList 0)) := Lib.hid (rowv_empty (Nat.le_refl _) X2.out)
        rw [← hW1]
        clear hW1 hb0 HNg h2b X2
        have HT := Lib.hid (And.intro h2 ht)
        clear h2 ht hk hlt
        go_loopw [6] (fun i wr => ∃ (k : Nat) (A : Option Addr) (c : Nat), k ≤ 17 ∧ i = .int .i64 (k : Int) ∧ Below w.heap.size w wr ∧ Hid (Box wr w.heap.size 25 #[.int .i64 0, .slice none 0 0]) ∧ Hid (Box wr (w.heap.size + 1 + 1) 25 #[.int .i64 g, .slice A k c]) ∧ Hid (GroI wr (w.heap.size + 1) (.slice A k c) (tabT t.data.toList k)) ∧ k ≤ c ∧ w.heap.size + 2 ≤ wr.heap.size) (fun i _ => 17 - (intOf i).toNat)
        case atStart => exact ⟨0, _, 0, by omega, rfl, hb1, X0, X1, HR0, Nat.le_refl _, hsz⟩
        case round =>
          clear X0 X1 hb1 hsz HR0
          obtain ⟨k, A, c, hk, rfl, hbw, X0, X1, HR, hcap, hsz⟩ := hrel
          have f1 := X1.out.cell 1 rfl
          by_cases hlt : k < 17
          · have HNk := Lib.hid (fun W => l02Fixed (t.extract (6 + 2 * k) (8 + 2 * k)) W (by rw [ByteArray.size_extract]; have := HT.out.1; omega) (by rw [ext_list]; exact allDig_take _ _ (allDig_drop _ _ H3.out)))
            rw [ext_list, show 8 + 2 * k - (6 + 2 * k) = 2 by omega, show ((numOf ((t.data.toList.drop (6 + 2 * k)).take 2) : Nat) : Int) = secT t.data.toList k from rfl] at HNk
            have HSt := Lib.hid (tabT_step t.data.toList k)
            generalize secT t.data.toList k = z at HNk HSt
            have hi1 : (k : Int) < 17 := by omega
            have p1 : (0 : Int) ≤ 6 + 2 * (k : Int) := by omega
            have p2 : 8 + 2 * (k : Int) ≤ 46 := by omega
            have p3 : 6 + 2 * (k : Int) ≤ 8 + 2 * (k : Int) := by omega
            have p5 : (0 : Int) ≤ 8 + 2 * (k : Int) := by omega
            have e1 : IntKind.i64.wrap (2 * (k : Int)) = 2 * (k : Int) := IntWalk.i64_in _ (by omega)
            have e2 : IntKind.i64.wrap (6 + 2 * (k : Int)) = 6 + 2 * (k : Int) := IntWalk.i64_in _ (by omega)
            have e3 : IntKind.i64.wrap (8 + 2 * (k : Int)) = 8 + 2 * (k : Int) := IntWalk.i64_in _ (by omega)
            have p4 : (6 + 2 * (k : Int)).toNat = 6 + 2 * k := by omega
            have p6 : (8 + 2 * (k : Int)).toNat = 8 + 2 * k := by omega
            have HRk : Hid (wr.ownsRow (w.heap.size + 1) 3 1 (.slice A k c) k ((tabT t.data.toList k).map (Value.int .i64))) := Lib.hid (by have := HR.out; unfold GroI at this; rwa [tabT_len] at this)
            have HLz := Lib.hid (tabT_len t.data.toList k)
            generalize tabT t.data.toList k = zs at HRk HSt HLz
            have HBa : Hid (Below wr.heap.size wr (wr.drew.alloc (.cells #[.int .i64 z] 3))) := Lib.hid (bt ((Below.refl _ _).drew) (alloc_below _ _))
            have HOw : Hid ((wr.drew.alloc (.cells #[.int .i64 z] 3)).ownsRow (w.heap.size + 1) 3 1 (.slice A k c) k (zs.map (Value.int .i64))) := Lib.hid (rowv_below HRk.out HBa.out)
            have HNw : Hid (∀ j u, [Value.int .i64 z][j]? = some u → (wr.drew.alloc (.cells #[.int .i64 z] 3)).cell? ⟨wr.heap.size, j, none⟩ = some u) := Lib.hid (fun j u hj => by
              match j, hj with
              | 0, hj => simp at hj; subst hj; exact (Box.new wr.drew 3 #[.int .i64 z]).cell 0 rfl)
            have HXa : Hid (Box (wr.drew.alloc (.cells #[.int .i64 z] 3)) (w.heap.size + 1 + 1) 25 #[.int .i64 g, .slice A k c]) := Lib.hid (X1.out.step HBa.out)
            have f2 : (wr.alloc (.cells #[.int .i64 z] 3)).drew.cell? ⟨w.heap.size + 1 + 1, 1, none⟩ = some (.slice A k c) := HXa.out.cell 1 rfl
            go_wp2
            go_region_law (first
              | (refine step_app_one rfl (.tmp 33) (.tmp 43) 23 3 rfl (.int .i64 0) 1 8 elemInt Try.underlying23 (w.heap.size + 1) (.slice A k c) k (zs.map (Value.int .i64)) ?_ HOw.out wr.heap.size 1 ?_ [.int .i64 z] rfl HNw.out ?_ ?_ ?_ ?_ ?_; simp [Act.eval]; simp [Act.eval]; (intro u hu; simp at hu; subst hu; rfl); (unfold maxLen; omega); omega; (simp; omega); intro A' c' w4 hR4 hc4 hg4 hb4; have HX4 := Lib.hid (HXa.out.grown HOw.out (by decide) hg4); have y0 := HX4.out.cell 1 rfl; have y1 := HX4.out.frozen 1)
              | ((rw [if_pos (by rfl)]); go_simp; go_at_call 127; refine (HNk.out _).mono ?_; rintro e w' ⟨rfl, rfl⟩))
            all_goals clear f1 f2 e1 e2 e3 p1 p2 p3 p4 p5 p6
            all_goals (
              have HR4 := Lib.hid hR4
              have hbz : Below w.heap.size w w4 := bt hbw (bt HBa.out (Below.refl _ _)) |>.trans (hb4.mono (by omega))
              have hs4 : w.heap.size + 2 ≤ w4.heap.size := Nat.le_trans (Nat.le_trans hsz HBa.out.size) hb4.size
              have HX0 := Lib.hid ((X0.out.step HBa.out).below hb4 (by omega))
              have HRs : Hid ((w4.setCell ⟨w.heap.size + 1 + 1, 1, none⟩ (.slice A' (k + 1) c')).ownsRow (w.heap.size + 1) 3 1 (.slice A' (k + 1) c') (k + 1) (zs.map (Value.int .i64) ++ [.int .i64 z])) := Lib.hid (rowv_setBox HR4.out HX4.out (by decide) 1 _)
              clear hR4 hb4 hg4 y0 y1
              go_wp2
              go_roundw
              case rel => exact ⟨k + 1, A', c', by omega, by go_num, hbz.setCell (by show w.heap.size ≤ w.heap.size + 1 + 1; omega) _, Lib.hid (HX0.out.far (by show w.heap.size ≠ w.heap.size + 1 + 1; omega) _), Lib.hid (HX4.out.set 1 _), Lib.hid (by unfold GroI; rw [HSt.out, List.length_append]; have := HRs.out; simpa [HLz.out] using this), hc4, by simpa [World.setCell] using hs4⟩
              case measure => simp [intOf]; omega)
          · obtain rfl : k = 17 := by omega
            have f0 := X1.out.cell 0 rfl
            have h2' : t.size = 46 := HT.out.1
            have HV := Lib.hid (fun W hW => specRootOK g A 17 c (tabT t.data.toList 17) W (tabT_len _ _) (by unfold maxLen; omega) hcap hW)
            have HRr := Lib.hid ((HR.out.own (Nat.le_refl _)).reads)
            by_cases hv : rootB g (tabT t.data.toList 17) = true
            · rw [hv] at HV
              by_cases h4 : t.data.toList.take 6 = t.data.toList.drop 40
              · have hq : ((t.extract 40 46).toList == (t.extract 0 6).toList) = true := by rw [H4.out]; exact decide_eq_true h4
                have HN : Hid (rdB t.data.toList = true) := Lib.hid (by rw [HB.out, hv, show decide (t.data.toList.take 6 = t.data.toList.drop 40) = true from decide_eq_true h4]; rfl)
                clear hv h4
                have h6 : Below wr.heap.size wr wr.drew := (Below.refl _ _).drew
                have HK : Hid (∀ W', Below wr.heap.size wr W' → W'.cell? ⟨w.heap.size + 1 + 1, 0, none⟩ = some (.int .i64 g) ∧ W'.cell? ⟨w.heap.size + 1 + 1, 1, none⟩ = some (.slice A 17 c)) := Lib.hid (fun W' hb => ⟨(X1.out.step hb).cell 0 rfl, (X1.out.step hb).cell 1 rfl⟩)
                have e9 : IntKind.i64.wrap 40 = 40 := IntWalk.i64_in _ (by omega)
                have e8 : IntKind.i64.wrap (46 - 6) = 40 := IntWalk.i64_in _ (by omega)
                go_wp2
                go_region_held3 (fun W' => W'.cell? ⟨w.heap.size + 1 + 1, 0, none⟩ = some (.int .i64 g) ∧ W'.cell? ⟨w.heap.size + 1 + 1, 1, none⟩ = some (.slice A 17 c))
                  (first | exact HK.out _ h6 | exact HK.out _ (bt h6 hb5))
                  (first | (go_at_call 48; refine (HV.out wr.drew ?_).mono ?_; exact HRr.out; rintro e w5 ⟨rfl, hb5⟩))
                have hb5' := bt h6 hb5
                have HX1 := Lib.hid (X1.out.step hb5')
                have HX0 := Lib.hid (X0.out.step hb5')
                have y0 := HX1.out.cell 0 rfl
                have y1 := HX1.out.cell 1 rfl
                have y2 := HX0.out.cell 0 rfl
                have y3 := HX0.out.cell 1 rfl
                have y4 := HX0.out.frozen 0
                have y5 := HX0.out.frozen 1
                have HO := Lib.hid ((HR.out.own (lo := w.heap.size) (by omega)).below hb5')
                have hbz := bt hbw hb5'
                clear f0 f1 e8 e9 hb5
                go_wp2
                refine bodyPost_ret (v := .tuple #[.agg #[.int .i64 g, .slice A 17 c], .bool true]) (by simp [results, Try.results115, go_sem, y2, y3]) rfl ?_
                have hG : okG t.data.toList = g := by unfold okG; rw [if_pos HN.out, HGe.out]
                have hZ : okZ t.data.toList = tabT t.data.toList 17 := by unfold okZ; rw [if_pos HN.out]
                rw [hG, hZ, HN.out]
                refine ⟨_, _, _, rfl, Lib.hid (tabT_len _ _), Lib.hid ?_, below_st2 hbz (Nat.le_refl _) _ _⟩
                exact (((HO.out.wide (Nat.le_refl _) hb5'.size).far HX0.out (by decide) 0 _).far (HX0.out.set 0 _) (by decide) 1 _).wide (Nat.le_refl _) (by simp [World.setCell])
              · have hq : ((t.extract 40 46).toList == (t.extract 0 6).toList) = false := by rw [H4.out]; exact decide_eq_false h4
                have HN : Hid (rdB t.data.toList = false) := Lib.hid (by rw [HB.out, show decide (t.data.toList.take 6 = t.data.toList.drop 40) = false from decide_eq_false h4]; rfl)
                clear hv h4
                have h6 : Below wr.heap.size wr wr.drew := (Below.refl _ _).drew
                have HK : Hid (∀ W', Below wr.heap.size wr W' → W'.cell? ⟨w.heap.size + 1 + 1, 0, none⟩ = some (.int .i64 g) ∧ W'.cell? ⟨w.heap.size + 1 + 1, 1, none⟩ = some (.slice A 17 c)) := Lib.hid (fun W' hb => ⟨(X1.out.step hb).cell 0 rfl, (X1.out.step hb).cell 1 rfl⟩)
                have e9 : IntKind.i64.wrap 40 = 40 := IntWalk.i64_in _ (by omega)
                have e8 : IntKind.i64.wrap (46 - 6) = 40 := IntWalk.i64_in _ (by omega)
                go_wp2
                go_region_held3 (fun W' => W'.cell? ⟨w.heap.size + 1 + 1, 0, none⟩ = some (.int .i64 g) ∧ W'.cell? ⟨w.heap.size + 1 + 1, 1, none⟩ = some (.slice A 17 c))
                  (first | exact HK.out _ h6 | exact HK.out _ (bt h6 hb5))
                  (first | (go_at_call 48; refine (HV.out wr.drew ?_).mono ?_; exact HRr.out; rintro e w5 ⟨rfl, hb5⟩))
                have hb5' := bt h6 hb5
                have HX1 := Lib.hid (X1.out.step hb5')
                have HX0 := Lib.hid (X0.out.step hb5')
                have y0 := HX1.out.cell 0 rfl
                have y1 := HX1.out.cell 1 rfl
                have y2 := HX0.out.cell 0 rfl
                have y3 := HX0.out.cell 1 rfl
                have y4 := HX0.out.frozen 0
                have y5 := HX0.out.frozen 1
                have HO := Lib.hid ((HR.out.own (lo := w.heap.size) (by omega)).below hb5')
                have hbz := bt hbw hb5'
                clear f0 f1 e8 e9 hb5
                go_wp2
                refine bodyPost_ret (v := .tuple #[.agg #[.int .i64 0, .slice none 0 0], .bool false]) (by simp [results, Try.results115, go_sem, y2, y3]) rfl ?_
                rw [(ok_no HN.out).1, (ok_no HN.out).2, HN.out]
                exact givesO_none (below_st2 hbz (Nat.le_refl _) _ _)
            · have hv' : rootB g (tabT t.data.toList 17) = false := by simpa using hv
              rw [hv'] at HV
              have HN : Hid (rdB t.data.toList = false) := Lib.hid (by rw [HB.out, hv']; simp)
              clear hv hv'
              have h6 : Below wr.heap.size wr wr.drew := (Below.refl _ _).drew
              have HK : Hid (∀ W', Below wr.heap.size wr W' → W'.cell? ⟨w.heap.size + 1 + 1, 0, none⟩ = some (.int .i64 g) ∧ W'.cell? ⟨w.heap.size + 1 + 1, 1, none⟩ = some (.slice A 17 c)) := Lib.hid (fun W' hb => ⟨(X1.out.step hb).cell 0 rfl, (X1.out.step hb).cell 1 rfl⟩)
              have e9 : IntKind.i64.wrap 40 = 40 := IntWalk.i64_in _ (by omega)
              have e8 : IntKind.i64.wrap (46 - 6) = 40 := IntWalk.i64_in _ (by omega)
              go_wp2
              refine wp_region_any (by kernel_rfl) ?_
              change wpAny _ _ _ _ _ _ _ (World.drew _)
              refine wpAny_ready (rs := [0]) (by kernel_rfl) (by simp) ?_
              refine AllReady.cons rfl (fun K hK => ?_) AllReady.nil
              go_simp
              refine hK _ _ ?_
              clear hK K
              refine wpAny_ready (rs := [1]) (by kernel_rfl) (by simp) ?_
              refine AllReady.cons rfl (fun K hK => ?_) AllReady.nil
              go_simp
              refine (HV.out wr.drew HRr.out).mono ?_
              rintro e w5 ⟨rfl, hb5⟩
              refine hK _ _ ?_
              clear hK K
              refine wpAny_take (i := 2) (v := .bool true) rfl (by kernel_rfl) (by kernel_rfl) (by kernel_rfl) (fun _ _ _ h => h) (Or.inl ⟨by rfl, by intro w; go_simp⟩) ?_
              refine wpAny_take (i := 3) (v := .bool true) rfl (by kernel_rfl) (by kernel_rfl) (by kernel_rfl) (fun _ _ _ h => h) (Or.inl ⟨by rfl, by intro w; go_simp⟩) ?_
              refine wpAny_take (i := 4) (v := undef) rfl (by kernel_rfl) (by kernel_rfl) (by kernel_rfl) (fun _ _ _ h => h) (Or.inr ⟨by kernel_rfl, rfl⟩) ?_
              refine wpAny_take (i := 5) (v := undef) rfl (by kernel_rfl) (by kernel_rfl) (by kernel_rfl) (fun _ _ _ h => h) (Or.inr ⟨by kernel_rfl, rfl⟩) ?_
              refine wpAny_take (i := 6) (v := undef) rfl (by kernel_rfl) (by kernel_rfl) (by kernel_rfl) (fun _ _ _ h => h) (Or.inr ⟨by kernel_rfl, rfl⟩) ?_
              refine wpAny_take (i := 7) (v := undef) rfl (by kernel_rfl) (by kernel_rfl) (by kernel_rfl) (fun _ _ _ h => h) (Or.inr ⟨by kernel_rfl, rfl⟩) ?_
              refine wpAny_take (i := 8) (v := undef) rfl (by kernel_rfl) (by kernel_rfl) (by kernel_rfl) (fun _ _ _ h => h) (Or.inr ⟨by kernel_rfl, rfl⟩) ?_
              refine wpAny_take (i := 9) (v := undef) rfl (by kernel_rfl) (by kernel_rfl) (by kernel_rfl) (fun _ _ _ h => h) (Or.inr ⟨by kernel_rfl, rfl⟩) ?_
              refine wpAny_take (i := 10) (v := undef) rfl (by kernel_rfl) (by kernel_rfl) (by kernel_rfl) (fun _ _ _ h => h) (Or.inr ⟨by kernel_rfl, rfl⟩) ?_
              refine wpAny_take (i := 11) (v := undef) rfl (by kernel_rfl) (by kernel_rfl) (by kernel_rfl) (fun _ _ _ h => h) (Or.inr ⟨by kernel_rfl, rfl⟩) ?_
              simp only [List.getElem_toArray, List.getElem_cons_zero, List.getElem_cons_succ, Act.put, List.setIfInBounds_toArray, List.set_cons_zero, List.set_cons_succ]
              refine wpAny_take (i := 12) (v := .bool true) rfl (by kernel_rfl) (by kernel_rfl) (by kernel_rfl) (fun _ _ _ h => h) (Or.inl ⟨by kernel_rfl, by intro w; go_simp⟩) ?_
              refine wpAny_done (by kernel_rfl) ?_ _
              simp only [List.getElem_toArray, List.getElem_cons_zero, List.getElem_cons_succ, Act.put, List.setIfInBounds_toArray, List.set_cons_zero, List.set_cons_succ]
              have hb5' := bt h6 hb5
              have HX1 := Lib.hid (X1.out.step hb5')
              have HX0 := Lib.hid (X0.out.step hb5')
              have y0 := HX1.out.cell 0 rfl
              have y1 := HX1.out.cell 1 rfl
              have y2 := HX0.out.cell 0 rfl
              have y3 := HX0.out.cell 1 rfl
              have y4 := HX0.out.frozen 0
              have y5 := HX0.out.frozen 1
              have HO := Lib.hid ((HR.out.own (lo := w.heap.size) (by omega)).below hb5')
              have hbz := bt hbw hb5'
              clear f0 f1 e8 e9 hb5
              go_wp2
              refine bodyPost_ret (v := .tuple #[.agg #[.int .i64 0, .slice none 0 0], .bool false]) (by simp [results, Try.results115, go_sem, y2, y3]) rfl ?_
              rw [(ok_no HN.out).1, (ok_no HN.out).2, HN.out]
              exact givesO_none (below_st2 hbz (Nat.le_refl _) _ _)
  · have h2b : ((t.size : Int) != 46) = true := by simp; omega
    have HW := Lib.hid (show rdB t.data.toList = false by unfold rdB; rw [show decide (t.data.toList.length = 46) = false by exact decide_eq_false h2]; simp)
    go_enter Try.func115, Try.ntmps115
    go_wp2
    refine bodyPost_ret (v := .tuple #[.agg #[.int .i64 0, .slice none 0 0], .bool false]) (by simp [results, Try.results115, go_sem]) rfl ?_
    rw [(ok_no HW.out).1, (ok_no HW.out).2, HW.out]
    exact givesO_none hb0

theorem rd_ok (t : ByteArray) (h : ¬ 65536 < t.size) : rdG t = okG t.data.toList ∧ rdZ t = okZ t.data.toList ∧ rdC t = if rdB t.data.toList = true then 0 else 9 := by
  unfold rdG rdZ rdC okG okZ
  rw [if_neg h, if_neg h, if_neg h]; exact ⟨rfl, rfl, rfl⟩
theorem OwnI.two {w : World} {lo hi b : Nat} {A : Option Addr} {zs : List Int} {t : TypeId} {cs : Array Value} (h : OwnI w lo hi A zs) (X : Box w b t cs) (ht : t ≠ 3) (u v : Value) : OwnI ((w.setCell ⟨b, 0, none⟩ u).setCell ⟨b, 1, none⟩ v) lo hi A zs :=
  (h.far X ht 0 u).far (X.set 0 u) ht 1 v

end Go.Proofs.Ytkhhdlclcniklaa

/- What the law on roots draws, and what its texts say. Nothing here walks. -/
namespace Go.Proofs.Ytkhhdlclcniklaa
open Go.RowKit

/-- The table of every drawn root. -/
def tab5 (k : Nat) : List Int := (List.range k).map fun i => ((2 + (7 * i + 5) % 46 : Nat) : Int)
theorem tab5_len (k : Nat) : (tab5 k).length = k := by simp [tab5]
theorem tab5_step (k : Nat) : tab5 (k + 1) = tab5 k ++ [((2 + (7 * k + 5) % 46 : Nat) : Int)] := by simp [tab5, List.range_succ]
theorem root5 {g : Int} (h : 1 ≤ g ∧ g ≤ 999999) : rootB g (tab5 17) = true := by rw [rootB_yes h (tab5_len 17)]; decide +kernel
theorem allDig_app (a b : List UInt8) : allDig (a ++ b) = (allDig a && allDig b) := by simp [allDig]
theorem allDig_digs : ∀ w n, allDig (digs w n) = true
  | 0, _ => rfl
  | w + 1, n => by
    rw [digs, allDig_app, allDig_digs w]
    have := dg_nat n
    simp only [allDig, List.all_cons, List.all_nil, Bool.and_true, Bool.true_and, digC, digB, decide_eq_true_eq]
    omega
theorem numOf_app (a : List UInt8) (c : UInt8) : numOf (a ++ [c]) = 10 * numOf a + (c.toNat - 48) := by simp [numOf]
theorem numOf_digs : ∀ w n, numOf (digs w n) = n % 10 ^ w
  | 0, n => by simp [digs, numOf, Nat.mod_one]
  | w + 1, n => by
    rw [digs, numOf_app, numOf_digs w, dg_nat, Nat.pow_succ]
    have h1 := Nat.mod_mul (x := n) (a := 10) (b := 10 ^ w)
    rw [Nat.mul_comm (10 ^ w) 10]
    omega
theorem allDig_tab : ∀ zs : List Int, allDig (tabTx zs) = true
  | [] => rfl
  | z :: zs => by
    have e : tabTx (z :: zs) = digs 2 z.toNat ++ tabTx zs := by simp [tabTx]
    rw [e, allDig_app, allDig_digs, allDig_tab zs]; rfl
/-- The first copy of one generation, a table, the second copy of another's. -/
def joinL (g g' : Nat) (zs : List Int) : List UInt8 := digs 6 g ++ (tabTx zs ++ digs 6 g')
theorem joinL_len (g g' : Nat) (zs : List Int) (h : zs.length = 17) : (joinL g g' zs).length = 46 := by
  unfold joinL; simp [digs_len, tabTx_len, h]
theorem join_sec (g g' : Nat) (zs : List Int) (h : zs.length = 17) (hz : ∀ z ∈ zs, 0 ≤ z ∧ z ≤ 99) (k : Nat) (hk : k < 17) : secT (joinL g g' zs) k = zs.getD k 0 := by
  unfold secT joinL
  have e1 : (digs 6 g ++ (tabTx zs ++ digs 6 g')).drop (6 + 2 * k) = (tabTx zs ++ digs 6 g').drop (2 * k) := by
    rw [List.drop_append, List.drop_eq_nil_of_le (by rw [digs_len]; omega), digs_len, List.nil_append, show 6 + 2 * k - 6 = 2 * k by omega]
  have e2 : ((tabTx zs ++ digs 6 g').drop (2 * k)).take 2 = digs 2 (zs.getD k 0).toNat := by
    have h1 : tabTx (zs.take (k + 1)) = tabTx (zs.take k) ++ digs 2 (zs.getD k 0).toNat := tabTx_step zs k (by omega)
    have h2 : tabTx zs = tabTx (zs.take (k + 1)) ++ tabTx (zs.drop (k + 1)) := by
      unfold tabTx; rw [← List.flatMap_append, List.take_append_drop]
    rw [h2, h1, List.append_assoc, List.append_assoc, List.drop_append, List.drop_eq_nil_of_le (by rw [tabTx_len, List.length_take]; omega), List.nil_append, tabTx_len, List.length_take, show 2 * k - 2 * min k zs.length = 0 by omega, List.drop_zero, List.take_append, List.take_of_length_le (by rw [digs_len]; omega), digs_len, Nat.sub_self, List.take_zero, List.append_nil]
  rw [e1, e2, numOf_digs]
  have hm : zs.getD k 0 ∈ zs := by
    rw [List.getD_eq_getElem?_getD, List.getElem?_eq_getElem (by omega), Option.getD_some]; exact List.getElem_mem _
  have := hz _ hm
  omega
theorem join_tab (g g' : Nat) (zs : List Int) (h : zs.length = 17) (hz : ∀ z ∈ zs, 0 ≤ z ∧ z ≤ 99) : tabT (joinL g g' zs) 17 = zs := by
  apply List.ext_getElem (by rw [tabT_len, h])
  intro i h1 h2
  have hi : i < 17 := by rw [tabT_len] at h1; exact h1
  have := join_sec g g' zs h hz i hi
  simp only [tabT, List.getElem_map, List.getElem_range]
  rw [this, List.getD_eq_getElem?_getD, List.getElem?_eq_getElem h2, Option.getD_some]
theorem join_gen (g g' : Nat) (zs : List Int) (hg : g ≤ 999999) : genT (joinL g g' zs) = (g : Int) := by
  unfold genT joinL
  rw [List.take_append, List.take_of_length_le (by rw [digs_len]; omega), digs_len, Nat.sub_self, List.take_zero, List.append_nil, numOf_digs]
  omega
theorem tab5_in : ∀ z ∈ tab5 17, 0 ≤ z ∧ z ≤ 99 := by decide +kernel
/-- A text of two generations is a root if and only if they are one. -/
theorem join_read (g g' : Nat) (hg : 1 ≤ g ∧ g ≤ 999999) (hg' : g' ≤ 999999) : rdB (joinL g g' (tab5 17)) = decide (g = g') := by
  unfold rdB
  have h1 := joinL_len g g' (tab5 17) (tab5_len 17)
  have h2 : allDig (joinL g g' (tab5 17)) = true := by unfold joinL; rw [allDig_app, allDig_app, allDig_digs, allDig_digs, allDig_tab]; rfl
  have h3 : (joinL g g' (tab5 17)).take 6 = digs 6 g := by
    unfold joinL
    rw [List.take_append, List.take_of_length_le (by rw [digs_len]; omega), digs_len, Nat.sub_self, List.take_zero, List.append_nil]
  have h4 : (joinL g g' (tab5 17)).drop 40 = digs 6 g' := by
    unfold joinL
    rw [← List.append_assoc, List.drop_append, List.drop_eq_nil_of_le (by rw [List.length_append, digs_len, tabTx_len, tab5_len]; omega), List.nil_append, List.length_append, digs_len, tabTx_len, tab5_len, Nat.sub_self, List.drop_zero]
  rw [h1, h2, h3, h4, join_gen g g' _ hg.2, join_tab g g' _ (tab5_len 17) tab5_in, root5 (by omega)]
  by_cases e : g = g'
  · subst e; simp
  · have hne : digs 6 g ≠ digs 6 g' := fun h => e (by
      have a := numOf_digs 6 g
      have b := numOf_digs 6 g'
      rw [h] at a
      omega)
    simp [e, hne]
theorem root_list (g : Int) (zs : List Int) : (rootTx g zs).data.toList = joinL g.toNat g.toNat zs := by
  unfold rootTx joinL
  rw [← List.append_assoc]; rfl
/-- The front of one root's text and the rest of another's, cut within the table. -/
theorem cut_join (g g' : Nat) (zs : List Int) (k : Nat) (h : zs.length = 17) (h6 : 6 ≤ k) (h40 : k ≤ 40) : (joinL g g zs).take k ++ (joinL g' g' zs).drop k = joinL g g' zs := by
  unfold joinL
  have e1 : (digs 6 g ++ (tabTx zs ++ digs 6 g)).take k = digs 6 g ++ (tabTx zs).take (k - 6) := by
    rw [List.take_append, List.take_of_length_le (by rw [digs_len]; omega), digs_len, List.take_append_of_le_length (by rw [tabTx_len, h]; omega)]
  have e2 : (digs 6 g' ++ (tabTx zs ++ digs 6 g')).drop k = (tabTx zs).drop (k - 6) ++ digs 6 g' := by
    rw [List.drop_append, List.drop_eq_nil_of_le (by rw [digs_len]; omega), List.nil_append, digs_len, List.drop_append_of_le_length (by rw [tabTx_len, h]; omega)]
  rw [e1, e2, List.append_assoc, ← List.append_assoc ((tabTx zs).take (k - 6)), List.take_append_drop]
end Go.Proofs.Ytkhhdlclcniklaa
