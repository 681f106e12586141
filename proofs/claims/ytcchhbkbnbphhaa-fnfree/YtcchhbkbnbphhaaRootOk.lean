/- Contracts of both RootOK and of what they call. -/
import Derived.Test.YtcchhbkbnbphhaaM2
import Derived.Test.YtcchhbkbnbphhaaM1
namespace Go.Proofs.Ytcchhbkbnbphhaa
open Go.RowKit

def pageB (z : Int) : Bool := decide (2 ≤ z ∧ z ≤ 47)
def rootB (g : Int) (zs : List Int) : Bool := decide (1 ≤ g ∧ g ≤ 999999) && decide (zs.length = 17) && zs.all pageB && decide zs.Nodup

set_option maxRecDepth 100000 in
theorem isPage (z : Int) (w : World) : Calls Try.prog 94 #[.int .i64 z] w fun e w' => e = .returned (.bool (pageB z)) ∧ w = w' := by
  by_cases h1 : 2 ≤ z
  · by_cases h2 : z < 48
    · have HF : Hid (pageB z = true) := Lib.hid (by unfold pageB; simp; omega)
      go_enter Try.func94, Try.ntmps94
      go_wp2
      go_ret
      exact ⟨ret_bool (by rw [HF.out]), rfl⟩
    · have HF : Hid (pageB z = false) := Lib.hid (by unfold pageB; simp; omega)
      go_enter Try.func94, Try.ntmps94
      go_wp2
      go_ret
      exact ⟨ret_bool (by rw [HF.out]), rfl⟩
  · have HF : Hid (pageB z = false) := Lib.hid (by unfold pageB; simp; omega)
    go_enter Try.func94, Try.ntmps94
    go_wp2
    go_ret
    exact ⟨ret_bool (by rw [HF.out]), rfl⟩

def inB (lo hi z : Int) : Bool := decide (lo ≤ z ∧ z ≤ hi)
set_option maxRecDepth 100000 in
theorem l01InG (z lo hi : Int) (w : World) : Calls Try.prog 37 #[.int .i64 z, .int .i64 lo, .int .i64 hi] w fun e w' => e = .returned (.bool (inB lo hi z)) ∧ w = w' := by
  go_enter Try.func37, Try.ntmps37
  go_wp2
  all_goals go_ret
  all_goals (refine ⟨ret_bool ?_, rfl⟩)
  all_goals (unfold inB; rw [Bool.eq_iff_iff]; simp; try omega)

set_option maxRecDepth 100000 in
theorem l02Page (z : Int) (w : World) : Calls Try.prog 96 #[.int .i64 z] w fun e w' => e = .returned (.bool (pageB z)) ∧ w = w' := by
  have HC := Lib.hid (l01InG z 2 47)
  go_enter Try.func96, Try.ntmps96
  go_wp2_with fail
  refine (HC.out _).mono ?_
  rintro e w' ⟨rfl, rfl⟩
  generalize hq : inB 2 47 z = q
  have HQ := Lib.hid hq
  clear hq
  go_wp2
  go_ret
  exact ⟨ret_bool HQ.out.symm, rfl⟩

def GivesSet (ks : List Int) (w : World) (e : Ending) (w' : World) : Prop := ∃ b, e = .returned (.map (some b)) ∧ w.heap.size ≤ b ∧ Hid (SetI w' b ks) ∧ Below w.heap.size w w'

set_option maxRecDepth 100000 in
set_option maxHeartbeats 1000000 in
theorem usedSectors (A : Option Addr) (n c : Nat) (zs : List Int) (w : World) (hl : zs.length = n) (hn : n ≤ maxLen) (h : IntL w A zs) :
    Calls Try.prog 76 #[.slice A n c] w (GivesSet (keysOf zs) w) := by
  unfold maxLen at hn
  have HL := Lib.hid hl
  have H := Lib.hid h
  have hmm := fun t w => run_makeMap (P := Try.prog) t w
  clear hl h
  go_enter Try.func76, Try.ntmps76
  go_wp2
  clear hmm
  have hb0 := alloc_below w (.map #[] 0)
  have hs0 := Lib.hid (SetI.made w)
  generalize w.alloc (.map #[] 0) = wa at hb0 hs0 ⊢
  go_loopw [9] (fun i wr => ∃ k : Nat, k ≤ n ∧ i = .int .i64 k ∧ Below w.heap.size w wr ∧ Hid (SetI wr w.heap.size (keysOf (zs.take k)))) (fun i _ => n - (intOf i).toNat)
  case atStart => exact ⟨0, Nat.zero_le _, rfl, hb0, hs0⟩
  case round =>
    obtain ⟨k, hk, rfl, hbw, HS⟩ := hrel
    by_cases hlt : k < n
    · obtain ⟨b, off, rfl, hc⟩ := (H.out.below hbw) k (by rw [HL.out]; exact hlt)
      have HK := Lib.hid (keysOf_step zs k (by rw [HL.out]; exact hlt))
      generalize zs.getD k 0 = z at hc HK
      have hi : (k : Int) < (n : Int) := by omega
      go_wp2_with (first | (at_mapUpdate; refine wpList_set_add _ rfl _ _ _ 99 rfl 3 4 Try.underlying99 Try.underlying3 w.heap.size (keysOf (zs.take k)) z rfl rfl rfl HS.out ?_; intro w1 hs1 hg1))
      go_roundw
      case rel => exact ⟨k + 1, by omega, by go_num, hbw.grown hg1 hbw.size (fun j hj => by cases hj; exact Nat.le_refl _), Lib.hid (by rw [HK.out]; exact hs1)⟩
      case measure => simp [intOf]; omega
    · go_wp2
      go_ret
      exact ⟨_, rfl, Nat.le_refl _, Lib.hid (by have := HS.out; rwa [List.take_of_length_le (by rw [HL.out]; omega)] at this), hbw⟩

theorem rootB_no {g : Int} {zs : List Int} (h : ¬ (1 ≤ g ∧ g ≤ 999999) ∨ zs.length ≠ 17) : rootB g zs = false := by
  unfold rootB
  rcases h with h | h
  · rw [show decide (1 ≤ g ∧ g ≤ 999999) = false by simpa using h]; rfl
  · rw [show decide (zs.length = 17) = false by simpa using h]; simp
theorem rootB_yes {g : Int} {zs : List Int} (h : 1 ≤ g ∧ g ≤ 999999) (h2 : zs.length = 17) : rootB g zs = (zs.all pageB && decide zs.Nodup) := by
  unfold rootB
  rw [show decide (1 ≤ g ∧ g ≤ 999999) = true by simpa using h, show decide (zs.length = 17) = true by simpa using h2]; simp
theorem nodup_len (zs : List Int) (h : zs.length = 17) : (((keysOf zs).length : Int) == 17) = decide zs.Nodup := by
  have := (keysOf_len zs).2
  rw [h] at this
  by_cases hn : zs.Nodup
  · have e := this.2 hn
    rw [e]; simp [hn]
  · have : (keysOf zs).length ≠ 17 := fun q => hn (this.1 q)
    simp [hn]; omega

set_option maxRecDepth 100000 in
set_option maxHeartbeats 1000000 in
theorem rootValid (g : Int) (A : Option Addr) (n c : Nat) (zs : List Int) (w : World) (hl : zs.length = n) (hn : n ≤ maxLen) (h : IntL w A zs) :
    Calls Try.prog 86 #[.agg #[.int .i64 g, .slice A n c]] w fun e w' => e = .returned (.bool (rootB g zs)) ∧ Below w.heap.size w w' := by
  have hb0 := alloc_below w (.cells #[.int .i64 g, .slice A n c] 31)
  by_cases h1 : 1 ≤ g ∧ g ≤ 999999
  · by_cases h2 : n = 17
    · obtain ⟨g1, g2⟩ := h1
      have HV := Lib.hid (rootB_yes (zs := zs) ⟨g1, g2⟩ (hl.trans h2))
      have HU := Lib.hid (usedSectors A n c zs _ hl hn (h.below hb0))
      have HN := Lib.hid (nodup_len zs (hl.trans h2))
      have HL := Lib.hid hl
      have H := Lib.hid (h.below hb0)
      have X := Box.new w 31 #[.int .i64 g, .slice A n c]
      have f1 := X.cell 1 rfl
      have q1 : ¬ g < 1 := by omega
      have q2 : ¬ 999999 < g := by omega
      have q3 : ((n : Int) != 17) = false := by rw [h2]; rfl
      have q4 : n ≤ 17 := by omega
      clear h hl hn h2
      go_enter Try.func86, Try.ntmps86
      go_wp2
      go_loop [22] (fun i => ∃ k : Nat, k ≤ n ∧ i = .int .i64 k ∧ Hid (zs.all pageB = (zs.drop k).all pageB)) (fun i => n - (intOf i).toNat)
      case atStart => exact ⟨0, Nat.zero_le _, rfl, Lib.hid rfl⟩
      case round =>
        obtain ⟨k, hk, rfl, HT⟩ := hrel
        by_cases hlt : k < n
        · obtain ⟨b, off, rfl, hc⟩ := H.out k (by rw [HL.out]; exact hlt)
          have HS := Lib.hid (all_step pageB zs 0 k (by rw [HL.out]; exact hlt))
          generalize zs.getD k 0 = z at hc HS
          have hi : (k : Int) < (n : Int) := by omega
          have HC := Lib.hid (fun W => isPage z W)
          by_cases hE : pageB z = true
          · go_wp2_with (first | (go_at_call 94; refine (HC.out _).mono ?_; rintro e w' ⟨rfl, rfl⟩))
            go_round
            case rel => exact ⟨k + 1, by omega, by go_num, Lib.hid (by rw [HT.out, HS.out, hE]; rfl)⟩
            case measure => simp [intOf]; omega
          · have hE' : pageB z = false := by simpa using hE
            clear hE
            go_wp2_with (first | (go_at_call 94; refine (HC.out _).mono ?_; rintro e w' ⟨rfl, rfl⟩))
            go_ret
            exact ⟨ret_bool (by rw [HV.out, HT.out, HS.out, hE']; rfl), hb0⟩
        · go_wp2_with fail
          refine HU.out.mono ?_
          rintro e w1 ⟨b, rfl, hbb, HS, hb1⟩
          have hlen := run_set_len (P := Try.prog) Try.underlying99 HS.out 3
          generalize hq : (((keysOf zs).length : Int) == 17) = q at HN
          generalize (keysOf zs).length = m at hlen hq
          go_wp2
          go_ret
          refine ⟨ret_bool ?_, bt hb0 hb1⟩
          rw [HV.out, HT.out, all_end _ _ _ (by rw [HL.out]; omega), ← HN.out]
          exact (Bool.true_and _).symm
    · have HV := Lib.hid (rootB_no (g := g) (zs := zs) (.inr (by omega)))
      have q1 : ¬ g < 1 := by omega
      have q2 : ¬ 999999 < g := by omega
      have q3 : ((n : Int) != 17) = true := by simp; omega
      clear h hl hn
      go_enter Try.func86, Try.ntmps86
      go_wp2
      go_ret
      exact ⟨ret_bool HV.out.symm, hb0⟩
  · have HV := Lib.hid (rootB_no (g := g) (zs := zs) (.inl h1))
    clear h hl hn
    by_cases q1 : g < 1
    · clear h1
      go_enter Try.func86, Try.ntmps86
      go_wp2
      go_ret
      exact ⟨ret_bool HV.out.symm, hb0⟩
    · have q2 : 999999 < g := by omega
      clear h1
      go_enter Try.func86, Try.ntmps86
      go_wp2
      go_ret
      exact ⟨ret_bool HV.out.symm, hb0⟩

set_option maxRecDepth 100000 in
theorem l02In (A : Option Addr) (n c : Nat) (zs : List Int) (z : Int) (w : World) (hl : zs.length = n) (hn : n ≤ maxLen) (h : IntL w A zs) :
    Calls Try.prog 79 #[.slice A n c, .int .i64 z] w fun e w' => e = .returned (.bool (decide (z ∈ zs))) ∧ w = w' := by
  unfold maxLen at hn
  have HL := Lib.hid hl
  have H := Lib.hid h
  clear hl h
  go_enter Try.func79, Try.ntmps79
  go_wp2
  go_loop [5] (fun i => ∃ k : Nat, k ≤ n ∧ i = .int .i64 k ∧ Hid (z ∉ zs.take k)) (fun i => n - (intOf i).toNat)
  case atStart => exact ⟨0, Nat.zero_le _, rfl, Lib.hid (by simp)⟩
  case round =>
    obtain ⟨k, hk, rfl, HT⟩ := hrel
    by_cases hlt : k < n
    · obtain ⟨b, off, rfl, hc⟩ := H.out k (by rw [HL.out]; exact hlt)
      have HS : Hid (∀ x, zs.getD k 0 = x → (x = z → z ∈ zs) ∧ (x ≠ z → z ∉ zs.take (k + 1))) := Lib.hid (fun x hx => by
        have hk' : k < zs.length := by rw [HL.out]; exact hlt
        rw [List.getD_eq_getElem?_getD, List.getElem?_eq_getElem hk', Option.getD_some] at hx
        refine ⟨fun q => by rw [← q, ← hx]; exact List.getElem_mem _, fun q => ?_⟩
        rw [List.take_succ_eq_append_getElem hk', hx, List.mem_append]
        rintro (p | p)
        · exact HT.out p
        · simp at p; exact q p.symm)
      generalize hx : zs.getD k 0 = x at hc
      have HX := Lib.hid hx
      clear hx
      have hi : (k : Int) < (n : Int) := by omega
      by_cases hE : x = z
      · have hq : (x == z) = true := by simp [hE]
        have HE := Lib.hid hE
        clear hE
        go_wp2
        go_ret
        exact ⟨ret_bool (by simp [(HS.out x HX.out).1 HE.out]), rfl⟩
      · have hq : (x == z) = false := by simp [hE]
        have HE := Lib.hid hE
        clear hE
        go_wp2
        go_round
        case rel => exact ⟨k + 1, by omega, by go_num, Lib.hid ((HS.out x HX.out).2 HE.out)⟩
        case measure => simp [intOf]; omega
    · go_wp2
      go_ret
      have ht := HT.out
      rw [List.take_of_length_le (by rw [HL.out]; omega)] at ht
      exact ⟨ret_bool (by simp [ht]), rfl⟩

theorem take_reads {w : World} {A : Option Addr} {zs : List Int} (h : IntL w A zs) (k : Nat) : IntL w A (zs.take k) := fun i hi => by
  simp at hi
  obtain ⟨b, off, e, hc⟩ := h i (by omega)
  refine ⟨b, off, e, ?_⟩
  rw [hc, List.getD_eq_getElem?_getD, List.getD_eq_getElem?_getD, List.getElem?_take_of_lt (by omega)]

def goodK (zs : List Int) (k : Nat) : Bool := (zs.take k).all pageB && decide (zs.take k).Nodup
theorem goodK_step (zs : List Int) (k : Nat) (h : k < zs.length) : goodK zs (k + 1) = (goodK zs k && (pageB (zs.getD k 0) && !decide (zs.getD k 0 ∈ zs.take k))) := by
  unfold goodK
  rw [List.take_succ_eq_append_getElem h, List.getD_eq_getElem?_getD, List.getElem?_eq_getElem h, Option.getD_some]
  rw [List.all_append, Bool.eq_iff_iff]
  simp only [Bool.and_eq_true, decide_eq_true_eq, List.all_cons, List.all_nil, List.nodup_append, Bool.not_eq_true', decide_eq_false_iff_not]
  constructor
  · rintro ⟨⟨a, b, _⟩, c, _, d⟩
    exact ⟨⟨a, c⟩, b, fun q => d _ q _ (by simp) rfl⟩
  · rintro ⟨⟨a, c⟩, b, d⟩
    exact ⟨⟨a, b, trivial⟩, c, by simp, fun x hx y hy q => by simp at hy; subst hy; subst q; exact d hx⟩
theorem goodK_all (zs : List Int) (k : Nat) (h : zs.length ≤ k) : goodK zs k = (zs.all pageB && decide zs.Nodup) := by
  unfold goodK; rw [List.take_of_length_le h]
theorem goodK_no (zs : List Int) (k : Nat) (h : goodK zs k = false) : (zs.all pageB && decide zs.Nodup) = false := by
  cases hx : (zs.all pageB && decide zs.Nodup) with
  | false => rfl
  | true =>
    rw [Bool.and_eq_true, List.all_eq_true, decide_eq_true_eq] at hx
    rw [← h]
    unfold goodK
    symm
    rw [Bool.and_eq_true, List.all_eq_true, decide_eq_true_eq]
    exact ⟨fun x q => hx.1 x (List.mem_of_mem_take q), hx.2.sublist (List.take_sublist _ _)⟩
end Go.Proofs.Ytcchhbkbnbphhaa
